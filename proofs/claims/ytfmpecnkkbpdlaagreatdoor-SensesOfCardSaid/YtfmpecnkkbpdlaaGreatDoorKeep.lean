import Derived.OwnWalk
import Derived.LoopTactic
import Derived.Handy
import Derived.Below
import Derived.Test.YtfmpecnkkbpdlaaGreatDoorGBook
import Derived.Test.YtfmpecnkkbpdlaaGreatDoorLaOrd
set_option maxRecDepth 100000
set_option maxHeartbeats 2000000
namespace Go.Proofs.YtfmpecnkkbpdlaaGreatDoor
open Go.RowKit
def Zz (k:Int)(vN vB vS vM vO vL:Value):Array Value:= #[.int .i64 k,.slice none 0 0,.slice none 0 0,.slice none 0 0,vM,vO,vL,.slice none 0 0,vN,vB,.slice none 0 0,vS,.slice none 0 0,.slice none 0 0,.slice none 0 0,.slice none 0 0]
structure ZZ (w:World)(bk k:Nat)(vN:Value)(kN:Nat)(xN:List Value)(vB:Value)(kB:Nat)(xB:List Value)(vS:Value)(kS:Nat)(xS:List Value)(vM:Value)(kM:Nat)(xM:List Value)(vO:Value)(kO:Nat)(xO:List Value)(vL:Value)(kL:Nat)(xL:List Value):Prop where
 blk:w.heap[bk]?=some (.cells (Zz (k:Int) vN vB vS vM vO vL) 64 (0,0))
 oN:w.ownsRow (bk+1) 191 3 vN kN xN
 oB:w.ownsRow (bk+1) 194 3 vB kB xB
 oS:w.ownsRow (bk+1) 201 3 vS kS xS
 oM:w.ownsRow (bk+1) 177 3 vM kM xM
 oO:w.ownsRow (bk+1) 180 3 vO kO xO
 oL:w.ownsRow (bk+1) 183 3 vL kL xL
theorem V6 (w:World)(u0 u1 u2:Value)(e:TypeId): ∀j x,[u0,u1,u2][j]?=some x→((w.alloc (.cells #[u0,u1,u2] e)).drew).cell? ((⟨w.heap.size,0,none⟩:Addr).add j)=some x:=by
 intro j x hx
 have hb:=heap_alloc_new w (.cells #[u0,u1,u2] e)
 rw[Addr.add_lit,Nat.zero_add]
 show(w.alloc (.cells #[u0,u1,u2] e)).cell? ⟨w.heap.size,j,none⟩=some x
 rw[Za hb, ← hx]
 simp
theorem Zv {W W':World}{b n m sz1 sz2:Nat}{E F:TypeId}{v y:Value}{xs ys:List Value}(hE:E≠F)(hy:W.ownsRow b E sz1 y m ys)(hv:W.ownsRow b F sz2 v n xs)(hg:W.grownBy W' v.ownBlock):W'.ownsRow b E sz1 y m ys:=
 Zjl hy fun q e=>hg.block q (hy.lt q e).2 fun e'=>by
  rcases hy.2 with⟨rfl,_⟩|⟨g,cap,cur,rfl,_,h1,_⟩
  ·cases e
  rcases hv.2 with⟨rfl,_⟩|⟨g',cap',cur',rfl,_,h2,_⟩
  ·cases e'
  have a1:g=q:=by simpa [Value.ownBlock] using e
  have a2:q=g':=by simpa [Value.ownBlock] using e'
  exact Ue h1 h2 hE (a1.trans a2)
theorem ZhX {w:World}{base E n g:Nat}{v:Value}{xs:List Value}{sz:Nat}(h:w.ownsRow base E sz v n xs)(e:v.ownBlock=some g): ∃cur,w.heap[g]?=some (.cells cur E (0,0)):=by
 rcases h.2 with⟨hv,_⟩|⟨g',cap,cur,rfl,hb,hg,r⟩
 ·rw[hv] at e;cases e
 ·have e':g'=g:=by simpa [Value.ownBlock] using e
  exact⟨cur,e'▸hg⟩
theorem UG {w w':World}{bk E n:Nat}{v:Value}{xs:List Value}{sz:Nat}(hk:Kept (fun b=>b=bk∨v.ownBlock=some b) w w')(h:w.ownsRow (bk+1) E sz v n xs):Kept (fun b=>bk≤b) w w':=
 hk.mono fun b hb=>hb.elim (fun e=>Nat.le_of_eq e.symm) fun e=>by have:=(h.lt b e).1;omega
theorem UH {w w':World}{bk E n g t:Nat}{v:Value}{xs:List Value}{sz:Nat}{cs cb:Array Value}(hk:Kept (fun b=>b=bk∨v.ownBlock=some b) w w')(h:w.ownsRow (bk+1) E sz v n xs)(hb:w.heap[bk]?=some (.cells cb 64 (0,0)))(hg:w.heap[g]?=some (.cells cs t (0,0)))(h1:t≠64)(h2:t≠E):w'.heap[g]?=some (.cells cs t (0,0)):=
 (hk.block g (Zd hg) (by
  rintro(rfl|e)
  ·rw[hb] at hg
   injection hg with hg
   injection hg with _ hg
   exact h1 hg.symm
  ·obtain⟨cur,hc⟩:=ZhX h e
   rw[hc] at hg
   injection hg with hg
   injection hg with _ hg
   exact h2 hg.symm)).trans hg
theorem Zgt (bk k:Nat)(vN:Value)(kN:Nat)(xN:List Value)(vB:Value)(kB:Nat)(xB:List Value)(vS:Value)(kS:Nat)(xS:List Value)(vM:Value)(kM:Nat)(xM:List Value)(vO:Value)(kO:Nat)(xO:List Value)(vL:Value)(kL:Nat)(xL:List Value)(A:Option Addr)(n c:Nat)(w:World)(hB:ZZ w bk k vN kN xN vB kB xB vS kS xS vM kM xM vO kO xO vL kL xL)(hk:k≤1000)(hkk:kN≤1000):
  Calls Tryz.prog 125 #[.pointer (some ⟨bk,0,none⟩),.slice A n c] w fun e w'=>e= .returned (.tuple #[])∧ ∃v',ZZ w' bk (k+1) v' (kN+1) (xN++ [.slice A n c,.slice none 0 0,.int .i64 ((k:Int)+1)]) vB kB xB vS kS xS vM kM xM vO kO xO vL kL xL∧Kept (fun b=>b=bk∨vN.ownBlock=some b) w w':=by
 obtain⟨i0,hi0,hz0,hz1,hz2⟩:=info_parts (show(Tryz.prog.info? 191).map (fun i=>(i.zero,i.size,i.bytes))=some (some (.agg #[.slice none 0 0,.slice none 0 0,.int .i64 0]),3,56) by kernel_rfl)
 have c0:w.cell? ⟨bk,0,none⟩=some (.int .i64 (k:Int)):=by rw[Za hB.blk];rfl
 have f0:w.frozen? ⟨bk,0,none⟩=false:=Zb hB.blk
 go_enter Tryz.func125,Tryz.ntmps125
 go_wp2
 have hb1:(w.setCell ⟨bk,0,none⟩ (.int .i64 ((k:Int)+1))).heap[bk]?=some (.cells (Zz ((k:Int)+1) vN vB vS vM vO vL) 64 (0,0)):=by rw[Zj hB.blk];rfl
 have hon:(w.setCell ⟨bk,0,none⟩ (.int .i64 ((k:Int)+1))).ownsRow (bk+1) 191 3 vN kN xN:=ownsRow_setCell_below hB.oN (by simp) _
 have hotB:(w.setCell ⟨bk,0,none⟩ (.int .i64 ((k:Int)+1))).ownsRow (bk+1) 194 3 vB kB xB:=ownsRow_setCell_below hB.oB (by simp) _
 have hotS:(w.setCell ⟨bk,0,none⟩ (.int .i64 ((k:Int)+1))).ownsRow (bk+1) 201 3 vS kS xS:=ownsRow_setCell_below hB.oS (by simp) _
 have hotM:(w.setCell ⟨bk,0,none⟩ (.int .i64 ((k:Int)+1))).ownsRow (bk+1) 177 3 vM kM xM:=ownsRow_setCell_below hB.oM (by simp) _
 have hotO:(w.setCell ⟨bk,0,none⟩ (.int .i64 ((k:Int)+1))).ownsRow (bk+1) 180 3 vO kO xO:=ownsRow_setCell_below hB.oO (by simp) _
 have hotL:(w.setCell ⟨bk,0,none⟩ (.int .i64 ((k:Int)+1))).ownsRow (bk+1) 183 3 vL kL xL:=ownsRow_setCell_below hB.oL (by simp) _
 have hk1:Kept (fun b=>b=bk∨vN.ownBlock=some b) w (w.setCell ⟨bk,0,none⟩ (.int .i64 ((k:Int)+1))):=Kept.setCell (D:=(fun b=>b=bk∨vN.ownBlock=some b)) (p:=⟨bk,0,none⟩) (Kept.refl _ _) (.inl (.inl rfl)) _
 have hbk:=Zd hB.blk
 clear c0 f0 hB
 generalize w.setCell ⟨bk,0,none⟩ (.int .i64 ((k:Int)+1))=w1 at*
 have d0:w1.cell? ⟨bk,0,none⟩=some (.int .i64 ((k:Int)+1)):=by rw[Za hb1];rfl
 have d1:w1.cell? ⟨bk,8,none⟩=some vN:=by rw[Za hb1];rfl
 obtain⟨vA,vc,hv⟩: ∃A c,vN= .slice A kN c:=by
  rcases hon.2 with⟨rfl,rfl⟩|⟨g,cap,cur,rfl,_⟩
  ·exact⟨_,_,rfl⟩
  ·exact⟨_,_,rfl⟩
 subst hv
 have HB1:=Hd hb1
 clear hb1
 refine wro [0,1,2,3,4,5,6,7,8,9,10,11,12,13,14,15] [11,12,13,14,15] 15 (fun w'=>w'.cell? ⟨bk,0,none⟩=some (.int .i64 ((k:Int)+1))∧w'.cell? ⟨bk,8,none⟩=some (.slice vA kN vc)) (by kernel_rfl) (fun _ _ _ _ _ h=>h) ⟨d0,d1⟩ ?_
 simp only[steps,sE,sD]
 repeat((first|refine Zg rfl ?_|(refine Zf (v:= ?_) rfl rfl ?_ ?_;rotate_left;(focus(rintro w' ⟨hS0,hS2⟩;go_simp;try with_reducible rfl))));simp only[Act.put,sA,sB,sC])
 refine Ze rfl rfl (fun K hK=> ?_)
 go_simp
 have hal: ∀(o:Obj) (j:Nat),((w1.alloc o).drew).cell? ⟨bk,j,none⟩=w1.cell? ⟨bk,j,none⟩:=fun o j=>World.cell?_alloc_lt w1 o ⟨bk,j,none⟩ (Zd HB1.out)
 refine hK.out _ _ (fun _=>⟨(hal _ 0).trans d0,(hal _ 8).trans d1⟩) ?_
 clear hK K
 refine Ze rfl rfl (fun K hK=> ?_)
 have hoa:=hon.alloc (.cells #[.slice A n c,.slice none 0 0,.int .i64 ((k:Int)+1)] 191)
 have halotB:=hotB.alloc (.cells #[.slice A n c,.slice none 0 0,.int .i64 ((k:Int)+1)] 191)
 have halotS:=hotS.alloc (.cells #[.slice A n c,.slice none 0 0,.int .i64 ((k:Int)+1)] 191)
 have halotM:=hotM.alloc (.cells #[.slice A n c,.slice none 0 0,.int .i64 ((k:Int)+1)] 191)
 have halotO:=hotO.alloc (.cells #[.slice A n c,.slice none 0 0,.int .i64 ((k:Int)+1)] 191)
 have halotL:=hotL.alloc (.cells #[.slice A n c,.slice none 0 0,.int .i64 ((k:Int)+1)] 191)
 refine wp_append_own _ (.tmp 15) (.tmp 22) 55 rfl (bk+1) 191 i0 _ 3 56 Tryz.underlying55 hi0 hz0 hz1 hz2 rfl (by decide) (.slice vA kN vc) kN xN rfl hoa ⟨w1.heap.size,0,none⟩ 1 1 [.slice A n c,.slice none 0 0,.int .i64 ((k:Int)+1)] rfl rfl ?_ ?_ (by unfold maxLen;omega) (by omega) ?_ ?_
 ·exact V6 w1 _ _ _ 191
 ·intro u hu
  simp only[List.mem_cons,List.not_mem_nil,or_false] at hu
  rcases hu with rfl|rfl|rfl <;> rfl
 ·have:=Zd HB1.out
  show bk+1≤(w1.alloc _).heap.size
  simp
  omega
 intro v2 w2 ho2 hg2 hn2
 have hne:some bk≠(Value.slice vA kN vc).ownBlock:=by
  intro e
  have:=(hon.lt bk e.symm).1
  omega
 have hb2:w2.heap[bk]?=some (.cells (Zz ((k:Int)+1) (.slice vA kN vc) vB vS vM vO vL) 64 (0,0)):=by
  rw[hg2.block bk (by have:=Zd HB1.out;show bk < (w1.alloc _).heap.size;simp;omega) hne]
  exact(Below.heap_alloc w1 _ bk (Zd HB1.out)).trans HB1.out
 have g0:w2.cell? ⟨bk,0,none⟩=some (.int .i64 ((k:Int)+1)):=by rw[Za hb2];rfl
 have g1:w2.cell? ⟨bk,8,none⟩=some (.slice vA kN vc):=by rw[Za hb2];rfl
 have f1:w2.frozen? ⟨bk,8,none⟩=false:=Zb hb2
 have HB2:=Hd hb2
 have HotB:Hid (w2.ownsRow (bk+1) 194 3 vB kB xB):=Hd (Zv (by decide) halotB hoa ⟨hg2.os,hg2.tape,hg2.output,hg2.size,hg2.block⟩)
 have HotS:Hid (w2.ownsRow (bk+1) 201 3 vS kS xS):=Hd (Zv (by decide) halotS hoa ⟨hg2.os,hg2.tape,hg2.output,hg2.size,hg2.block⟩)
 have HotM:Hid (w2.ownsRow (bk+1) 177 3 vM kM xM):=Hd (Zv (by decide) halotM hoa ⟨hg2.os,hg2.tape,hg2.output,hg2.size,hg2.block⟩)
 have HotO:Hid (w2.ownsRow (bk+1) 180 3 vO kO xO):=Hd (Zv (by decide) halotO hoa ⟨hg2.os,hg2.tape,hg2.output,hg2.size,hg2.block⟩)
 have HotL:Hid (w2.ownsRow (bk+1) 183 3 vL kL xL):=Hd (Zv (by decide) halotL hoa ⟨hg2.os,hg2.tape,hg2.output,hg2.size,hg2.block⟩)
 have hk2:Kept (fun b=>b=bk∨(Value.slice vA kN vc).ownBlock=some b) w w2:=hk1.trans ⟨hg2.os,hg2.tape,hg2.output,Nat.le_trans (by simp) hg2.size,fun b hb hn=>(hg2.block b (Nat.lt_of_lt_of_le hb (by show _≤(w1.alloc _).heap.size;simp)) (fun e=>hn (.inr e.symm))).trans (Below.heap_alloc w1 _ b hb)⟩
 clear hb2 d0 d1 hal
 refine hK.out _ _ (fun _=>⟨g0,g1⟩) ?_
 clear hK K
 simp only[Act.put,sA,sB,sC]
 refine Ze rfl rfl (fun K hK=> ?_)
 go_simp
 refine hK.out _ _ (fun _=>⟨g0,g1⟩) ?_
 clear hK K
 refine Ze rfl rfl (fun K hK=> ?_)
 go_simp
 refine hK.out _ _ (fun _=>⟨g0,g1⟩) ?_
 clear hK K
 obtain⟨A2,c2,hv2⟩: ∃A c,v2= .slice A (kN+1) c:=by
  rcases ho2.2 with⟨rfl,e⟩|⟨g,cap,cur,rfl,_⟩
  ·omega
  ·exact⟨_,_,rfl⟩
 subst hv2
 refine Ze rfl rfl (fun K hK=> ?_)
 go_simp
 refine hK.out _ _ (fun h=>absurd rfl h) ?_
 clear hK K
 refine Zi ?_
 go_wp2
 go_end0
 refine⟨rfl,.slice A2 (kN+1) c2,⟨?_,?_,ownsRow_setCell_below HotB.out (by simp) _,ownsRow_setCell_below HotS.out (by simp) _,ownsRow_setCell_below HotM.out (by simp) _,ownsRow_setCell_below HotO.out (by simp) _,ownsRow_setCell_below HotL.out (by simp) _⟩,?_⟩
 ·rw[Zj HB2.out,Int.natCast_add]
  rfl
 ·exact ownsRow_setCell_below ho2 (by simp) _
 ·exact Kept.setCell (D:=(fun b=>b=bk∨(Value.slice vA kN vc).ownBlock=some b)) (p:=⟨bk,8,none⟩) hk2 (.inl (.inl rfl)) _
theorem ZhY (bk k:Nat)(vN:Value)(kN:Nat)(xN:List Value)(vB:Value)(kB:Nat)(xB:List Value)(vS:Value)(kS:Nat)(xS:List Value)(vM:Value)(kM:Nat)(xM:List Value)(vO:Value)(kO:Nat)(xO:List Value)(vL:Value)(kL:Nat)(xL:List Value)(A:Option Addr)(n c:Nat)(w:World)(hB:ZZ w bk k vN kN xN vB kB xB vS kS xS vM kM xM vO kO xO vL kL xL)(hk:k≤1000)(hkk:kN≤1000):
  Calls Tryz.prog 34 #[.pointer (some ⟨bk,0,none⟩),.slice A n c] w fun e w'=>e= .returned (.tuple #[])∧ ∃v',ZZ w' bk (k+1) v' (kN+1) (xN++ [.slice A n c,.slice none 0 0,.int .i64 ((k:Int)+1)]) vB kB xB vS kS xS vM kM xM vO kO xO vL kL xL∧Kept (fun b=>b=bk∨vN.ownBlock=some b) w w':=by
 go_enter Tryz.func34,Tryz.ntmps34
 go_wp2_with fail
 refine(Zgt bk k vN kN xN vB kB xB vS kS xS vM kM xM vO kO xO vL kL xL A n c _ hB hk hkk).mono ?_
 rintro e w1 ⟨rfl,v1,hB1,hk1⟩
 go_wp2_with fail
 go_end0
 exact⟨rfl,v1,hB1,hk1⟩
theorem Zgu (bk k:Nat)(vN:Value)(kN:Nat)(xN:List Value)(vB:Value)(kB:Nat)(xB:List Value)(vS:Value)(kS:Nat)(xS:List Value)(vM:Value)(kM:Nat)(xM:List Value)(vO:Value)(kO:Nat)(xO:List Value)(vL:Value)(kL:Nat)(xL:List Value)(A:Option Addr)(n c:Nat)(w:World)(hB:ZZ w bk k vN kN xN vB kB xB vS kS xS vM kM xM vO kO xO vL kL xL)(hk:k≤1000)(hkk:kB≤1000):
  Calls Tryz.prog 126 #[.pointer (some ⟨bk,0,none⟩),.slice A n c] w fun e w'=>e= .returned (.tuple #[])∧ ∃v',ZZ w' bk (k+1) vN kN xN v' (kB+1) (xB++ [.slice A n c,.slice none 0 0,.int .i64 ((k:Int)+1)]) vS kS xS vM kM xM vO kO xO vL kL xL∧Kept (fun b=>b=bk∨vB.ownBlock=some b) w w':=by
 obtain⟨i0,hi0,hz0,hz1,hz2⟩:=info_parts (show(Tryz.prog.info? 194).map (fun i=>(i.zero,i.size,i.bytes))=some (some (.agg #[.slice none 0 0,.slice none 0 0,.int .i64 0]),3,56) by kernel_rfl)
 have c0:w.cell? ⟨bk,0,none⟩=some (.int .i64 (k:Int)):=by rw[Za hB.blk];rfl
 have f0:w.frozen? ⟨bk,0,none⟩=false:=Zb hB.blk
 go_enter Tryz.func126,Tryz.ntmps126
 go_wp2
 have hb1:(w.setCell ⟨bk,0,none⟩ (.int .i64 ((k:Int)+1))).heap[bk]?=some (.cells (Zz ((k:Int)+1) vN vB vS vM vO vL) 64 (0,0)):=by rw[Zj hB.blk];rfl
 have hon:(w.setCell ⟨bk,0,none⟩ (.int .i64 ((k:Int)+1))).ownsRow (bk+1) 194 3 vB kB xB:=ownsRow_setCell_below hB.oB (by simp) _
 have hotN:(w.setCell ⟨bk,0,none⟩ (.int .i64 ((k:Int)+1))).ownsRow (bk+1) 191 3 vN kN xN:=ownsRow_setCell_below hB.oN (by simp) _
 have hotS:(w.setCell ⟨bk,0,none⟩ (.int .i64 ((k:Int)+1))).ownsRow (bk+1) 201 3 vS kS xS:=ownsRow_setCell_below hB.oS (by simp) _
 have hotM:(w.setCell ⟨bk,0,none⟩ (.int .i64 ((k:Int)+1))).ownsRow (bk+1) 177 3 vM kM xM:=ownsRow_setCell_below hB.oM (by simp) _
 have hotO:(w.setCell ⟨bk,0,none⟩ (.int .i64 ((k:Int)+1))).ownsRow (bk+1) 180 3 vO kO xO:=ownsRow_setCell_below hB.oO (by simp) _
 have hotL:(w.setCell ⟨bk,0,none⟩ (.int .i64 ((k:Int)+1))).ownsRow (bk+1) 183 3 vL kL xL:=ownsRow_setCell_below hB.oL (by simp) _
 have hk1:Kept (fun b=>b=bk∨vB.ownBlock=some b) w (w.setCell ⟨bk,0,none⟩ (.int .i64 ((k:Int)+1))):=Kept.setCell (D:=(fun b=>b=bk∨vB.ownBlock=some b)) (p:=⟨bk,0,none⟩) (Kept.refl _ _) (.inl (.inl rfl)) _
 have hbk:=Zd hB.blk
 clear c0 f0 hB
 generalize w.setCell ⟨bk,0,none⟩ (.int .i64 ((k:Int)+1))=w1 at*
 have d0:w1.cell? ⟨bk,0,none⟩=some (.int .i64 ((k:Int)+1)):=by rw[Za hb1];rfl
 have d1:w1.cell? ⟨bk,9,none⟩=some vB:=by rw[Za hb1];rfl
 obtain⟨vA,vc,hv⟩: ∃A c,vB= .slice A kB c:=by
  rcases hon.2 with⟨rfl,rfl⟩|⟨g,cap,cur,rfl,_⟩
  ·exact⟨_,_,rfl⟩
  ·exact⟨_,_,rfl⟩
 subst hv
 have HB1:=Hd hb1
 clear hb1
 refine wro [0,1,2,3,4,5,6,7,8,9,10,11,12,13,14,15] [11,12,13,14,15] 15 (fun w'=>w'.cell? ⟨bk,0,none⟩=some (.int .i64 ((k:Int)+1))∧w'.cell? ⟨bk,9,none⟩=some (.slice vA kB vc)) (by kernel_rfl) (fun _ _ _ _ _ h=>h) ⟨d0,d1⟩ ?_
 simp only[steps,sE,sD]
 repeat((first|refine Zg rfl ?_|(refine Zf (v:= ?_) rfl rfl ?_ ?_;rotate_left;(focus(rintro w' ⟨hS0,hS2⟩;go_simp;try with_reducible rfl))));simp only[Act.put,sA,sB,sC])
 refine Ze rfl rfl (fun K hK=> ?_)
 go_simp
 have hal: ∀(o:Obj) (j:Nat),((w1.alloc o).drew).cell? ⟨bk,j,none⟩=w1.cell? ⟨bk,j,none⟩:=fun o j=>World.cell?_alloc_lt w1 o ⟨bk,j,none⟩ (Zd HB1.out)
 refine hK.out _ _ (fun _=>⟨(hal _ 0).trans d0,(hal _ 9).trans d1⟩) ?_
 clear hK K
 refine Ze rfl rfl (fun K hK=> ?_)
 have hoa:=hon.alloc (.cells #[.slice A n c,.slice none 0 0,.int .i64 ((k:Int)+1)] 194)
 have halotN:=hotN.alloc (.cells #[.slice A n c,.slice none 0 0,.int .i64 ((k:Int)+1)] 194)
 have halotS:=hotS.alloc (.cells #[.slice A n c,.slice none 0 0,.int .i64 ((k:Int)+1)] 194)
 have halotM:=hotM.alloc (.cells #[.slice A n c,.slice none 0 0,.int .i64 ((k:Int)+1)] 194)
 have halotO:=hotO.alloc (.cells #[.slice A n c,.slice none 0 0,.int .i64 ((k:Int)+1)] 194)
 have halotL:=hotL.alloc (.cells #[.slice A n c,.slice none 0 0,.int .i64 ((k:Int)+1)] 194)
 refine wp_append_own _ (.tmp 15) (.tmp 22) 56 rfl (bk+1) 194 i0 _ 3 56 Tryz.underlying56 hi0 hz0 hz1 hz2 rfl (by decide) (.slice vA kB vc) kB xB rfl hoa ⟨w1.heap.size,0,none⟩ 1 1 [.slice A n c,.slice none 0 0,.int .i64 ((k:Int)+1)] rfl rfl ?_ ?_ (by unfold maxLen;omega) (by omega) ?_ ?_
 ·exact V6 w1 _ _ _ 194
 ·intro u hu
  simp only[List.mem_cons,List.not_mem_nil,or_false] at hu
  rcases hu with rfl|rfl|rfl <;> rfl
 ·have:=Zd HB1.out
  show bk+1≤(w1.alloc _).heap.size
  simp
  omega
 intro v2 w2 ho2 hg2 hn2
 have hne:some bk≠(Value.slice vA kB vc).ownBlock:=by
  intro e
  have:=(hon.lt bk e.symm).1
  omega
 have hb2:w2.heap[bk]?=some (.cells (Zz ((k:Int)+1) vN (.slice vA kB vc) vS vM vO vL) 64 (0,0)):=by
  rw[hg2.block bk (by have:=Zd HB1.out;show bk < (w1.alloc _).heap.size;simp;omega) hne]
  exact(Below.heap_alloc w1 _ bk (Zd HB1.out)).trans HB1.out
 have g0:w2.cell? ⟨bk,0,none⟩=some (.int .i64 ((k:Int)+1)):=by rw[Za hb2];rfl
 have g1:w2.cell? ⟨bk,9,none⟩=some (.slice vA kB vc):=by rw[Za hb2];rfl
 have f1:w2.frozen? ⟨bk,9,none⟩=false:=Zb hb2
 have HB2:=Hd hb2
 have HotN:Hid (w2.ownsRow (bk+1) 191 3 vN kN xN):=Hd (Zv (by decide) halotN hoa ⟨hg2.os,hg2.tape,hg2.output,hg2.size,hg2.block⟩)
 have HotS:Hid (w2.ownsRow (bk+1) 201 3 vS kS xS):=Hd (Zv (by decide) halotS hoa ⟨hg2.os,hg2.tape,hg2.output,hg2.size,hg2.block⟩)
 have HotM:Hid (w2.ownsRow (bk+1) 177 3 vM kM xM):=Hd (Zv (by decide) halotM hoa ⟨hg2.os,hg2.tape,hg2.output,hg2.size,hg2.block⟩)
 have HotO:Hid (w2.ownsRow (bk+1) 180 3 vO kO xO):=Hd (Zv (by decide) halotO hoa ⟨hg2.os,hg2.tape,hg2.output,hg2.size,hg2.block⟩)
 have HotL:Hid (w2.ownsRow (bk+1) 183 3 vL kL xL):=Hd (Zv (by decide) halotL hoa ⟨hg2.os,hg2.tape,hg2.output,hg2.size,hg2.block⟩)
 have hk2:Kept (fun b=>b=bk∨(Value.slice vA kB vc).ownBlock=some b) w w2:=hk1.trans ⟨hg2.os,hg2.tape,hg2.output,Nat.le_trans (by simp) hg2.size,fun b hb hn=>(hg2.block b (Nat.lt_of_lt_of_le hb (by show _≤(w1.alloc _).heap.size;simp)) (fun e=>hn (.inr e.symm))).trans (Below.heap_alloc w1 _ b hb)⟩
 clear hb2 d0 d1 hal
 refine hK.out _ _ (fun _=>⟨g0,g1⟩) ?_
 clear hK K
 simp only[Act.put,sA,sB,sC]
 refine Ze rfl rfl (fun K hK=> ?_)
 go_simp
 refine hK.out _ _ (fun _=>⟨g0,g1⟩) ?_
 clear hK K
 refine Ze rfl rfl (fun K hK=> ?_)
 go_simp
 refine hK.out _ _ (fun _=>⟨g0,g1⟩) ?_
 clear hK K
 obtain⟨A2,c2,hv2⟩: ∃A c,v2= .slice A (kB+1) c:=by
  rcases ho2.2 with⟨rfl,e⟩|⟨g,cap,cur,rfl,_⟩
  ·omega
  ·exact⟨_,_,rfl⟩
 subst hv2
 refine Ze rfl rfl (fun K hK=> ?_)
 go_simp
 refine hK.out _ _ (fun h=>absurd rfl h) ?_
 clear hK K
 refine Zi ?_
 go_wp2
 go_end0
 refine⟨rfl,.slice A2 (kB+1) c2,⟨?_,ownsRow_setCell_below HotN.out (by simp) _,?_,ownsRow_setCell_below HotS.out (by simp) _,ownsRow_setCell_below HotM.out (by simp) _,ownsRow_setCell_below HotO.out (by simp) _,ownsRow_setCell_below HotL.out (by simp) _⟩,?_⟩
 ·rw[Zj HB2.out,Int.natCast_add]
  rfl
 ·exact ownsRow_setCell_below ho2 (by simp) _
 ·exact Kept.setCell (D:=(fun b=>b=bk∨(Value.slice vA kB vc).ownBlock=some b)) (p:=⟨bk,9,none⟩) hk2 (.inl (.inl rfl)) _
theorem Zdy (bk k:Nat)(vN:Value)(kN:Nat)(xN:List Value)(vB:Value)(kB:Nat)(xB:List Value)(vS:Value)(kS:Nat)(xS:List Value)(vM:Value)(kM:Nat)(xM:List Value)(vO:Value)(kO:Nat)(xO:List Value)(vL:Value)(kL:Nat)(xL:List Value)(A:Option Addr)(n c:Nat)(w:World)(hB:ZZ w bk k vN kN xN vB kB xB vS kS xS vM kM xM vO kO xO vL kL xL)(hk:k≤1000)(hkk:kB≤1000):
  Calls Tryz.prog 35 #[.pointer (some ⟨bk,0,none⟩),.slice A n c] w fun e w'=>e= .returned (.tuple #[])∧ ∃v',ZZ w' bk (k+1) vN kN xN v' (kB+1) (xB++ [.slice A n c,.slice none 0 0,.int .i64 ((k:Int)+1)]) vS kS xS vM kM xM vO kO xO vL kL xL∧Kept (fun b=>b=bk∨vB.ownBlock=some b) w w':=by
 go_enter Tryz.func35,Tryz.ntmps35
 go_wp2_with fail
 refine(Zgu bk k vN kN xN vB kB xB vS kS xS vM kM xM vO kO xO vL kL xL A n c _ hB hk hkk).mono ?_
 rintro e w1 ⟨rfl,v1,hB1,hk1⟩
 go_wp2_with fail
 go_end0
 exact⟨rfl,v1,hB1,hk1⟩
theorem Zgv (bk k:Nat)(vN:Value)(kN:Nat)(xN:List Value)(vB:Value)(kB:Nat)(xB:List Value)(vS:Value)(kS:Nat)(xS:List Value)(vM:Value)(kM:Nat)(xM:List Value)(vO:Value)(kO:Nat)(xO:List Value)(vL:Value)(kL:Nat)(xL:List Value)(A:Option Addr)(n c:Nat)(w:World)(hB:ZZ w bk k vN kN xN vB kB xB vS kS xS vM kM xM vO kO xO vL kL xL)(hk:k≤1000)(hkk:kS≤1000):
  Calls Tryz.prog 127 #[.pointer (some ⟨bk,0,none⟩),.slice A n c] w fun e w'=>e= .returned (.tuple #[])∧ ∃v',ZZ w' bk (k+1) vN kN xN vB kB xB v' (kS+1) (xS++ [.slice A n c,.slice none 0 0,.int .i64 ((k:Int)+1)]) vM kM xM vO kO xO vL kL xL∧Kept (fun b=>b=bk∨vS.ownBlock=some b) w w':=by
 obtain⟨i0,hi0,hz0,hz1,hz2⟩:=info_parts (show(Tryz.prog.info? 201).map (fun i=>(i.zero,i.size,i.bytes))=some (some (.agg #[.slice none 0 0,.slice none 0 0,.int .i64 0]),3,56) by kernel_rfl)
 have c0:w.cell? ⟨bk,0,none⟩=some (.int .i64 (k:Int)):=by rw[Za hB.blk];rfl
 have f0:w.frozen? ⟨bk,0,none⟩=false:=Zb hB.blk
 go_enter Tryz.func127,Tryz.ntmps127
 go_wp2
 have hb1:(w.setCell ⟨bk,0,none⟩ (.int .i64 ((k:Int)+1))).heap[bk]?=some (.cells (Zz ((k:Int)+1) vN vB vS vM vO vL) 64 (0,0)):=by rw[Zj hB.blk];rfl
 have hon:(w.setCell ⟨bk,0,none⟩ (.int .i64 ((k:Int)+1))).ownsRow (bk+1) 201 3 vS kS xS:=ownsRow_setCell_below hB.oS (by simp) _
 have hotN:(w.setCell ⟨bk,0,none⟩ (.int .i64 ((k:Int)+1))).ownsRow (bk+1) 191 3 vN kN xN:=ownsRow_setCell_below hB.oN (by simp) _
 have hotB:(w.setCell ⟨bk,0,none⟩ (.int .i64 ((k:Int)+1))).ownsRow (bk+1) 194 3 vB kB xB:=ownsRow_setCell_below hB.oB (by simp) _
 have hotM:(w.setCell ⟨bk,0,none⟩ (.int .i64 ((k:Int)+1))).ownsRow (bk+1) 177 3 vM kM xM:=ownsRow_setCell_below hB.oM (by simp) _
 have hotO:(w.setCell ⟨bk,0,none⟩ (.int .i64 ((k:Int)+1))).ownsRow (bk+1) 180 3 vO kO xO:=ownsRow_setCell_below hB.oO (by simp) _
 have hotL:(w.setCell ⟨bk,0,none⟩ (.int .i64 ((k:Int)+1))).ownsRow (bk+1) 183 3 vL kL xL:=ownsRow_setCell_below hB.oL (by simp) _
 have hk1:Kept (fun b=>b=bk∨vS.ownBlock=some b) w (w.setCell ⟨bk,0,none⟩ (.int .i64 ((k:Int)+1))):=Kept.setCell (D:=(fun b=>b=bk∨vS.ownBlock=some b)) (p:=⟨bk,0,none⟩) (Kept.refl _ _) (.inl (.inl rfl)) _
 have hbk:=Zd hB.blk
 clear c0 f0 hB
 generalize w.setCell ⟨bk,0,none⟩ (.int .i64 ((k:Int)+1))=w1 at*
 have d0:w1.cell? ⟨bk,0,none⟩=some (.int .i64 ((k:Int)+1)):=by rw[Za hb1];rfl
 have d1:w1.cell? ⟨bk,11,none⟩=some vS:=by rw[Za hb1];rfl
 obtain⟨vA,vc,hv⟩: ∃A c,vS= .slice A kS c:=by
  rcases hon.2 with⟨rfl,rfl⟩|⟨g,cap,cur,rfl,_⟩
  ·exact⟨_,_,rfl⟩
  ·exact⟨_,_,rfl⟩
 subst hv
 have HB1:=Hd hb1
 clear hb1
 refine wro [0,1,2,3,4,5,6,7,8,9,10,11,12,13,14,15] [11,12,13,14,15] 15 (fun w'=>w'.cell? ⟨bk,0,none⟩=some (.int .i64 ((k:Int)+1))∧w'.cell? ⟨bk,11,none⟩=some (.slice vA kS vc)) (by kernel_rfl) (fun _ _ _ _ _ h=>h) ⟨d0,d1⟩ ?_
 simp only[steps,sE,sD]
 repeat((first|refine Zg rfl ?_|(refine Zf (v:= ?_) rfl rfl ?_ ?_;rotate_left;(focus(rintro w' ⟨hS0,hS2⟩;go_simp;try with_reducible rfl))));simp only[Act.put,sA,sB,sC])
 refine Ze rfl rfl (fun K hK=> ?_)
 go_simp
 have hal: ∀(o:Obj) (j:Nat),((w1.alloc o).drew).cell? ⟨bk,j,none⟩=w1.cell? ⟨bk,j,none⟩:=fun o j=>World.cell?_alloc_lt w1 o ⟨bk,j,none⟩ (Zd HB1.out)
 refine hK.out _ _ (fun _=>⟨(hal _ 0).trans d0,(hal _ 11).trans d1⟩) ?_
 clear hK K
 refine Ze rfl rfl (fun K hK=> ?_)
 have hoa:=hon.alloc (.cells #[.slice A n c,.slice none 0 0,.int .i64 ((k:Int)+1)] 201)
 have halotN:=hotN.alloc (.cells #[.slice A n c,.slice none 0 0,.int .i64 ((k:Int)+1)] 201)
 have halotB:=hotB.alloc (.cells #[.slice A n c,.slice none 0 0,.int .i64 ((k:Int)+1)] 201)
 have halotM:=hotM.alloc (.cells #[.slice A n c,.slice none 0 0,.int .i64 ((k:Int)+1)] 201)
 have halotO:=hotO.alloc (.cells #[.slice A n c,.slice none 0 0,.int .i64 ((k:Int)+1)] 201)
 have halotL:=hotL.alloc (.cells #[.slice A n c,.slice none 0 0,.int .i64 ((k:Int)+1)] 201)
 refine wp_append_own _ (.tmp 15) (.tmp 22) 58 rfl (bk+1) 201 i0 _ 3 56 Tryz.underlying58 hi0 hz0 hz1 hz2 rfl (by decide) (.slice vA kS vc) kS xS rfl hoa ⟨w1.heap.size,0,none⟩ 1 1 [.slice A n c,.slice none 0 0,.int .i64 ((k:Int)+1)] rfl rfl ?_ ?_ (by unfold maxLen;omega) (by omega) ?_ ?_
 ·exact V6 w1 _ _ _ 201
 ·intro u hu
  simp only[List.mem_cons,List.not_mem_nil,or_false] at hu
  rcases hu with rfl|rfl|rfl <;> rfl
 ·have:=Zd HB1.out
  show bk+1≤(w1.alloc _).heap.size
  simp
  omega
 intro v2 w2 ho2 hg2 hn2
 have hne:some bk≠(Value.slice vA kS vc).ownBlock:=by
  intro e
  have:=(hon.lt bk e.symm).1
  omega
 have hb2:w2.heap[bk]?=some (.cells (Zz ((k:Int)+1) vN vB (.slice vA kS vc) vM vO vL) 64 (0,0)):=by
  rw[hg2.block bk (by have:=Zd HB1.out;show bk < (w1.alloc _).heap.size;simp;omega) hne]
  exact(Below.heap_alloc w1 _ bk (Zd HB1.out)).trans HB1.out
 have g0:w2.cell? ⟨bk,0,none⟩=some (.int .i64 ((k:Int)+1)):=by rw[Za hb2];rfl
 have g1:w2.cell? ⟨bk,11,none⟩=some (.slice vA kS vc):=by rw[Za hb2];rfl
 have f1:w2.frozen? ⟨bk,11,none⟩=false:=Zb hb2
 have HB2:=Hd hb2
 have HotN:Hid (w2.ownsRow (bk+1) 191 3 vN kN xN):=Hd (Zv (by decide) halotN hoa ⟨hg2.os,hg2.tape,hg2.output,hg2.size,hg2.block⟩)
 have HotB:Hid (w2.ownsRow (bk+1) 194 3 vB kB xB):=Hd (Zv (by decide) halotB hoa ⟨hg2.os,hg2.tape,hg2.output,hg2.size,hg2.block⟩)
 have HotM:Hid (w2.ownsRow (bk+1) 177 3 vM kM xM):=Hd (Zv (by decide) halotM hoa ⟨hg2.os,hg2.tape,hg2.output,hg2.size,hg2.block⟩)
 have HotO:Hid (w2.ownsRow (bk+1) 180 3 vO kO xO):=Hd (Zv (by decide) halotO hoa ⟨hg2.os,hg2.tape,hg2.output,hg2.size,hg2.block⟩)
 have HotL:Hid (w2.ownsRow (bk+1) 183 3 vL kL xL):=Hd (Zv (by decide) halotL hoa ⟨hg2.os,hg2.tape,hg2.output,hg2.size,hg2.block⟩)
 have hk2:Kept (fun b=>b=bk∨(Value.slice vA kS vc).ownBlock=some b) w w2:=hk1.trans ⟨hg2.os,hg2.tape,hg2.output,Nat.le_trans (by simp) hg2.size,fun b hb hn=>(hg2.block b (Nat.lt_of_lt_of_le hb (by show _≤(w1.alloc _).heap.size;simp)) (fun e=>hn (.inr e.symm))).trans (Below.heap_alloc w1 _ b hb)⟩
 clear hb2 d0 d1 hal
 refine hK.out _ _ (fun _=>⟨g0,g1⟩) ?_
 clear hK K
 simp only[Act.put,sA,sB,sC]
 refine Ze rfl rfl (fun K hK=> ?_)
 go_simp
 refine hK.out _ _ (fun _=>⟨g0,g1⟩) ?_
 clear hK K
 refine Ze rfl rfl (fun K hK=> ?_)
 go_simp
 refine hK.out _ _ (fun _=>⟨g0,g1⟩) ?_
 clear hK K
 obtain⟨A2,c2,hv2⟩: ∃A c,v2= .slice A (kS+1) c:=by
  rcases ho2.2 with⟨rfl,e⟩|⟨g,cap,cur,rfl,_⟩
  ·omega
  ·exact⟨_,_,rfl⟩
 subst hv2
 refine Ze rfl rfl (fun K hK=> ?_)
 go_simp
 refine hK.out _ _ (fun h=>absurd rfl h) ?_
 clear hK K
 refine Zi ?_
 go_wp2
 go_end0
 refine⟨rfl,.slice A2 (kS+1) c2,⟨?_,ownsRow_setCell_below HotN.out (by simp) _,ownsRow_setCell_below HotB.out (by simp) _,?_,ownsRow_setCell_below HotM.out (by simp) _,ownsRow_setCell_below HotO.out (by simp) _,ownsRow_setCell_below HotL.out (by simp) _⟩,?_⟩
 ·rw[Zj HB2.out,Int.natCast_add]
  rfl
 ·exact ownsRow_setCell_below ho2 (by simp) _
 ·exact Kept.setCell (D:=(fun b=>b=bk∨(Value.slice vA kS vc).ownBlock=some b)) (p:=⟨bk,11,none⟩) hk2 (.inl (.inl rfl)) _
theorem ZhZ (bk k:Nat)(vN:Value)(kN:Nat)(xN:List Value)(vB:Value)(kB:Nat)(xB:List Value)(vS:Value)(kS:Nat)(xS:List Value)(vM:Value)(kM:Nat)(xM:List Value)(vO:Value)(kO:Nat)(xO:List Value)(vL:Value)(kL:Nat)(xL:List Value)(A:Option Addr)(n c:Nat)(w:World)(hB:ZZ w bk k vN kN xN vB kB xB vS kS xS vM kM xM vO kO xO vL kL xL)(hk:k≤1000)(hkk:kS≤1000):
  Calls Tryz.prog 36 #[.pointer (some ⟨bk,0,none⟩),.slice A n c] w fun e w'=>e= .returned (.tuple #[])∧ ∃v',ZZ w' bk (k+1) vN kN xN vB kB xB v' (kS+1) (xS++ [.slice A n c,.slice none 0 0,.int .i64 ((k:Int)+1)]) vM kM xM vO kO xO vL kL xL∧Kept (fun b=>b=bk∨vS.ownBlock=some b) w w':=by
 go_enter Tryz.func36,Tryz.ntmps36
 go_wp2_with fail
 refine(Zgv bk k vN kN xN vB kB xB vS kS xS vM kM xM vO kO xO vL kL xL A n c _ hB hk hkk).mono ?_
 rintro e w1 ⟨rfl,v1,hB1,hk1⟩
 go_wp2_with fail
 go_end0
 exact⟨rfl,v1,hB1,hk1⟩
theorem Zgw (bk k:Nat)(vN:Value)(kN:Nat)(xN:List Value)(vB:Value)(kB:Nat)(xB:List Value)(vS:Value)(kS:Nat)(xS:List Value)(vM:Value)(kM:Nat)(xM:List Value)(vO:Value)(kO:Nat)(xO:List Value)(vL:Value)(kL:Nat)(xL:List Value)(A:Option Addr)(n c:Nat)(w:World)(hB:ZZ w bk k vN kN xN vB kB xB vS kS xS vM kM xM vO kO xO vL kL xL)(hk:k≤1000)(hkk:kM≤1000):
  Calls Tryz.prog 128 #[.pointer (some ⟨bk,0,none⟩),.slice A n c] w fun e w'=>e= .returned (.tuple #[])∧ ∃v',ZZ w' bk (k+1) vN kN xN vB kB xB vS kS xS v' (kM+1) (xM++ [.slice A n c,.slice none 0 0,.int .i64 ((k:Int)+1)]) vO kO xO vL kL xL∧Kept (fun b=>b=bk∨vM.ownBlock=some b) w w':=by
 obtain⟨i0,hi0,hz0,hz1,hz2⟩:=info_parts (show(Tryz.prog.info? 177).map (fun i=>(i.zero,i.size,i.bytes))=some (some (.agg #[.slice none 0 0,.slice none 0 0,.int .i64 0]),3,56) by kernel_rfl)
 have c0:w.cell? ⟨bk,0,none⟩=some (.int .i64 (k:Int)):=by rw[Za hB.blk];rfl
 have f0:w.frozen? ⟨bk,0,none⟩=false:=Zb hB.blk
 go_enter Tryz.func128,Tryz.ntmps128
 go_wp2
 have hb1:(w.setCell ⟨bk,0,none⟩ (.int .i64 ((k:Int)+1))).heap[bk]?=some (.cells (Zz ((k:Int)+1) vN vB vS vM vO vL) 64 (0,0)):=by rw[Zj hB.blk];rfl
 have hon:(w.setCell ⟨bk,0,none⟩ (.int .i64 ((k:Int)+1))).ownsRow (bk+1) 177 3 vM kM xM:=ownsRow_setCell_below hB.oM (by simp) _
 have hotN:(w.setCell ⟨bk,0,none⟩ (.int .i64 ((k:Int)+1))).ownsRow (bk+1) 191 3 vN kN xN:=ownsRow_setCell_below hB.oN (by simp) _
 have hotB:(w.setCell ⟨bk,0,none⟩ (.int .i64 ((k:Int)+1))).ownsRow (bk+1) 194 3 vB kB xB:=ownsRow_setCell_below hB.oB (by simp) _
 have hotS:(w.setCell ⟨bk,0,none⟩ (.int .i64 ((k:Int)+1))).ownsRow (bk+1) 201 3 vS kS xS:=ownsRow_setCell_below hB.oS (by simp) _
 have hotO:(w.setCell ⟨bk,0,none⟩ (.int .i64 ((k:Int)+1))).ownsRow (bk+1) 180 3 vO kO xO:=ownsRow_setCell_below hB.oO (by simp) _
 have hotL:(w.setCell ⟨bk,0,none⟩ (.int .i64 ((k:Int)+1))).ownsRow (bk+1) 183 3 vL kL xL:=ownsRow_setCell_below hB.oL (by simp) _
 have hk1:Kept (fun b=>b=bk∨vM.ownBlock=some b) w (w.setCell ⟨bk,0,none⟩ (.int .i64 ((k:Int)+1))):=Kept.setCell (D:=(fun b=>b=bk∨vM.ownBlock=some b)) (p:=⟨bk,0,none⟩) (Kept.refl _ _) (.inl (.inl rfl)) _
 have hbk:=Zd hB.blk
 clear c0 f0 hB
 generalize w.setCell ⟨bk,0,none⟩ (.int .i64 ((k:Int)+1))=w1 at*
 have d0:w1.cell? ⟨bk,0,none⟩=some (.int .i64 ((k:Int)+1)):=by rw[Za hb1];rfl
 have d1:w1.cell? ⟨bk,4,none⟩=some vM:=by rw[Za hb1];rfl
 obtain⟨vA,vc,hv⟩: ∃A c,vM= .slice A kM c:=by
  rcases hon.2 with⟨rfl,rfl⟩|⟨g,cap,cur,rfl,_⟩
  ·exact⟨_,_,rfl⟩
  ·exact⟨_,_,rfl⟩
 subst hv
 have HB1:=Hd hb1
 clear hb1
 refine wro [0,1,2,3,4,5,6,7,8,9,10,11,12,13,14,15] [11,12,13,14,15] 15 (fun w'=>w'.cell? ⟨bk,0,none⟩=some (.int .i64 ((k:Int)+1))∧w'.cell? ⟨bk,4,none⟩=some (.slice vA kM vc)) (by kernel_rfl) (fun _ _ _ _ _ h=>h) ⟨d0,d1⟩ ?_
 simp only[steps,sE,sD]
 repeat((first|refine Zg rfl ?_|(refine Zf (v:= ?_) rfl rfl ?_ ?_;rotate_left;(focus(rintro w' ⟨hS0,hS2⟩;go_simp;try with_reducible rfl))));simp only[Act.put,sA,sB,sC])
 refine Ze rfl rfl (fun K hK=> ?_)
 go_simp
 have hal: ∀(o:Obj) (j:Nat),((w1.alloc o).drew).cell? ⟨bk,j,none⟩=w1.cell? ⟨bk,j,none⟩:=fun o j=>World.cell?_alloc_lt w1 o ⟨bk,j,none⟩ (Zd HB1.out)
 refine hK.out _ _ (fun _=>⟨(hal _ 0).trans d0,(hal _ 4).trans d1⟩) ?_
 clear hK K
 refine Ze rfl rfl (fun K hK=> ?_)
 have hoa:=hon.alloc (.cells #[.slice A n c,.slice none 0 0,.int .i64 ((k:Int)+1)] 177)
 have halotN:=hotN.alloc (.cells #[.slice A n c,.slice none 0 0,.int .i64 ((k:Int)+1)] 177)
 have halotB:=hotB.alloc (.cells #[.slice A n c,.slice none 0 0,.int .i64 ((k:Int)+1)] 177)
 have halotS:=hotS.alloc (.cells #[.slice A n c,.slice none 0 0,.int .i64 ((k:Int)+1)] 177)
 have halotO:=hotO.alloc (.cells #[.slice A n c,.slice none 0 0,.int .i64 ((k:Int)+1)] 177)
 have halotL:=hotL.alloc (.cells #[.slice A n c,.slice none 0 0,.int .i64 ((k:Int)+1)] 177)
 refine wp_append_own _ (.tmp 15) (.tmp 22) 51 rfl (bk+1) 177 i0 _ 3 56 Tryz.underlying51 hi0 hz0 hz1 hz2 rfl (by decide) (.slice vA kM vc) kM xM rfl hoa ⟨w1.heap.size,0,none⟩ 1 1 [.slice A n c,.slice none 0 0,.int .i64 ((k:Int)+1)] rfl rfl ?_ ?_ (by unfold maxLen;omega) (by omega) ?_ ?_
 ·exact V6 w1 _ _ _ 177
 ·intro u hu
  simp only[List.mem_cons,List.not_mem_nil,or_false] at hu
  rcases hu with rfl|rfl|rfl <;> rfl
 ·have:=Zd HB1.out
  show bk+1≤(w1.alloc _).heap.size
  simp
  omega
 intro v2 w2 ho2 hg2 hn2
 have hne:some bk≠(Value.slice vA kM vc).ownBlock:=by
  intro e
  have:=(hon.lt bk e.symm).1
  omega
 have hb2:w2.heap[bk]?=some (.cells (Zz ((k:Int)+1) vN vB vS (.slice vA kM vc) vO vL) 64 (0,0)):=by
  rw[hg2.block bk (by have:=Zd HB1.out;show bk < (w1.alloc _).heap.size;simp;omega) hne]
  exact(Below.heap_alloc w1 _ bk (Zd HB1.out)).trans HB1.out
 have g0:w2.cell? ⟨bk,0,none⟩=some (.int .i64 ((k:Int)+1)):=by rw[Za hb2];rfl
 have g1:w2.cell? ⟨bk,4,none⟩=some (.slice vA kM vc):=by rw[Za hb2];rfl
 have f1:w2.frozen? ⟨bk,4,none⟩=false:=Zb hb2
 have HB2:=Hd hb2
 have HotN:Hid (w2.ownsRow (bk+1) 191 3 vN kN xN):=Hd (Zv (by decide) halotN hoa ⟨hg2.os,hg2.tape,hg2.output,hg2.size,hg2.block⟩)
 have HotB:Hid (w2.ownsRow (bk+1) 194 3 vB kB xB):=Hd (Zv (by decide) halotB hoa ⟨hg2.os,hg2.tape,hg2.output,hg2.size,hg2.block⟩)
 have HotS:Hid (w2.ownsRow (bk+1) 201 3 vS kS xS):=Hd (Zv (by decide) halotS hoa ⟨hg2.os,hg2.tape,hg2.output,hg2.size,hg2.block⟩)
 have HotO:Hid (w2.ownsRow (bk+1) 180 3 vO kO xO):=Hd (Zv (by decide) halotO hoa ⟨hg2.os,hg2.tape,hg2.output,hg2.size,hg2.block⟩)
 have HotL:Hid (w2.ownsRow (bk+1) 183 3 vL kL xL):=Hd (Zv (by decide) halotL hoa ⟨hg2.os,hg2.tape,hg2.output,hg2.size,hg2.block⟩)
 have hk2:Kept (fun b=>b=bk∨(Value.slice vA kM vc).ownBlock=some b) w w2:=hk1.trans ⟨hg2.os,hg2.tape,hg2.output,Nat.le_trans (by simp) hg2.size,fun b hb hn=>(hg2.block b (Nat.lt_of_lt_of_le hb (by show _≤(w1.alloc _).heap.size;simp)) (fun e=>hn (.inr e.symm))).trans (Below.heap_alloc w1 _ b hb)⟩
 clear hb2 d0 d1 hal
 refine hK.out _ _ (fun _=>⟨g0,g1⟩) ?_
 clear hK K
 simp only[Act.put,sA,sB,sC]
 refine Ze rfl rfl (fun K hK=> ?_)
 go_simp
 refine hK.out _ _ (fun _=>⟨g0,g1⟩) ?_
 clear hK K
 refine Ze rfl rfl (fun K hK=> ?_)
 go_simp
 refine hK.out _ _ (fun _=>⟨g0,g1⟩) ?_
 clear hK K
 obtain⟨A2,c2,hv2⟩: ∃A c,v2= .slice A (kM+1) c:=by
  rcases ho2.2 with⟨rfl,e⟩|⟨g,cap,cur,rfl,_⟩
  ·omega
  ·exact⟨_,_,rfl⟩
 subst hv2
 refine Ze rfl rfl (fun K hK=> ?_)
 go_simp
 refine hK.out _ _ (fun h=>absurd rfl h) ?_
 clear hK K
 refine Zi ?_
 go_wp2
 go_end0
 refine⟨rfl,.slice A2 (kM+1) c2,⟨?_,ownsRow_setCell_below HotN.out (by simp) _,ownsRow_setCell_below HotB.out (by simp) _,ownsRow_setCell_below HotS.out (by simp) _,?_,ownsRow_setCell_below HotO.out (by simp) _,ownsRow_setCell_below HotL.out (by simp) _⟩,?_⟩
 ·rw[Zj HB2.out,Int.natCast_add]
  rfl
 ·exact ownsRow_setCell_below ho2 (by simp) _
 ·exact Kept.setCell (D:=(fun b=>b=bk∨(Value.slice vA kM vc).ownBlock=some b)) (p:=⟨bk,4,none⟩) hk2 (.inl (.inl rfl)) _
theorem Zdz (bk k:Nat)(vN:Value)(kN:Nat)(xN:List Value)(vB:Value)(kB:Nat)(xB:List Value)(vS:Value)(kS:Nat)(xS:List Value)(vM:Value)(kM:Nat)(xM:List Value)(vO:Value)(kO:Nat)(xO:List Value)(vL:Value)(kL:Nat)(xL:List Value)(A:Option Addr)(n c:Nat)(w:World)(hB:ZZ w bk k vN kN xN vB kB xB vS kS xS vM kM xM vO kO xO vL kL xL)(hk:k≤1000)(hkk:kM≤1000):
  Calls Tryz.prog 37 #[.pointer (some ⟨bk,0,none⟩),.slice A n c] w fun e w'=>e= .returned (.tuple #[])∧ ∃v',ZZ w' bk (k+1) vN kN xN vB kB xB vS kS xS v' (kM+1) (xM++ [.slice A n c,.slice none 0 0,.int .i64 ((k:Int)+1)]) vO kO xO vL kL xL∧Kept (fun b=>b=bk∨vM.ownBlock=some b) w w':=by
 go_enter Tryz.func37,Tryz.ntmps37
 go_wp2_with fail
 refine(Zgw bk k vN kN xN vB kB xB vS kS xS vM kM xM vO kO xO vL kL xL A n c _ hB hk hkk).mono ?_
 rintro e w1 ⟨rfl,v1,hB1,hk1⟩
 go_wp2_with fail
 go_end0
 exact⟨rfl,v1,hB1,hk1⟩
theorem Zgx (bk k:Nat)(vN:Value)(kN:Nat)(xN:List Value)(vB:Value)(kB:Nat)(xB:List Value)(vS:Value)(kS:Nat)(xS:List Value)(vM:Value)(kM:Nat)(xM:List Value)(vO:Value)(kO:Nat)(xO:List Value)(vL:Value)(kL:Nat)(xL:List Value)(A:Option Addr)(n c:Nat)(w:World)(hB:ZZ w bk k vN kN xN vB kB xB vS kS xS vM kM xM vO kO xO vL kL xL)(hk:k≤1000)(hkk:kO≤1000):
  Calls Tryz.prog 201 #[.pointer (some ⟨bk,0,none⟩),.slice A n c] w fun e w'=>e= .returned (.tuple #[])∧ ∃v',ZZ w' bk (k+1) vN kN xN vB kB xB vS kS xS vM kM xM v' (kO+1) (xO++ [.slice A n c,.slice none 0 0,.int .i64 ((k:Int)+1)]) vL kL xL∧Kept (fun b=>b=bk∨vO.ownBlock=some b) w w':=by
 obtain⟨i0,hi0,hz0,hz1,hz2⟩:=info_parts (show(Tryz.prog.info? 180).map (fun i=>(i.zero,i.size,i.bytes))=some (some (.agg #[.slice none 0 0,.slice none 0 0,.int .i64 0]),3,56) by kernel_rfl)
 have c0:w.cell? ⟨bk,0,none⟩=some (.int .i64 (k:Int)):=by rw[Za hB.blk];rfl
 have f0:w.frozen? ⟨bk,0,none⟩=false:=Zb hB.blk
 go_enter Tryz.func201,Tryz.ntmps201
 go_wp2
 have hb1:(w.setCell ⟨bk,0,none⟩ (.int .i64 ((k:Int)+1))).heap[bk]?=some (.cells (Zz ((k:Int)+1) vN vB vS vM vO vL) 64 (0,0)):=by rw[Zj hB.blk];rfl
 have hon:(w.setCell ⟨bk,0,none⟩ (.int .i64 ((k:Int)+1))).ownsRow (bk+1) 180 3 vO kO xO:=ownsRow_setCell_below hB.oO (by simp) _
 have hotN:(w.setCell ⟨bk,0,none⟩ (.int .i64 ((k:Int)+1))).ownsRow (bk+1) 191 3 vN kN xN:=ownsRow_setCell_below hB.oN (by simp) _
 have hotB:(w.setCell ⟨bk,0,none⟩ (.int .i64 ((k:Int)+1))).ownsRow (bk+1) 194 3 vB kB xB:=ownsRow_setCell_below hB.oB (by simp) _
 have hotS:(w.setCell ⟨bk,0,none⟩ (.int .i64 ((k:Int)+1))).ownsRow (bk+1) 201 3 vS kS xS:=ownsRow_setCell_below hB.oS (by simp) _
 have hotM:(w.setCell ⟨bk,0,none⟩ (.int .i64 ((k:Int)+1))).ownsRow (bk+1) 177 3 vM kM xM:=ownsRow_setCell_below hB.oM (by simp) _
 have hotL:(w.setCell ⟨bk,0,none⟩ (.int .i64 ((k:Int)+1))).ownsRow (bk+1) 183 3 vL kL xL:=ownsRow_setCell_below hB.oL (by simp) _
 have hk1:Kept (fun b=>b=bk∨vO.ownBlock=some b) w (w.setCell ⟨bk,0,none⟩ (.int .i64 ((k:Int)+1))):=Kept.setCell (D:=(fun b=>b=bk∨vO.ownBlock=some b)) (p:=⟨bk,0,none⟩) (Kept.refl _ _) (.inl (.inl rfl)) _
 have hbk:=Zd hB.blk
 clear c0 f0 hB
 generalize w.setCell ⟨bk,0,none⟩ (.int .i64 ((k:Int)+1))=w1 at*
 have d0:w1.cell? ⟨bk,0,none⟩=some (.int .i64 ((k:Int)+1)):=by rw[Za hb1];rfl
 have d1:w1.cell? ⟨bk,5,none⟩=some vO:=by rw[Za hb1];rfl
 obtain⟨vA,vc,hv⟩: ∃A c,vO= .slice A kO c:=by
  rcases hon.2 with⟨rfl,rfl⟩|⟨g,cap,cur,rfl,_⟩
  ·exact⟨_,_,rfl⟩
  ·exact⟨_,_,rfl⟩
 subst hv
 have HB1:=Hd hb1
 clear hb1
 refine wro [0,1,2,3,4,5,6,7,8,9,10,11,12,13,14,15] [11,12,13,14,15] 15 (fun w'=>w'.cell? ⟨bk,0,none⟩=some (.int .i64 ((k:Int)+1))∧w'.cell? ⟨bk,5,none⟩=some (.slice vA kO vc)) (by kernel_rfl) (fun _ _ _ _ _ h=>h) ⟨d0,d1⟩ ?_
 simp only[steps,sE,sD]
 repeat((first|refine Zg rfl ?_|(refine Zf (v:= ?_) rfl rfl ?_ ?_;rotate_left;(focus(rintro w' ⟨hS0,hS2⟩;go_simp;try with_reducible rfl))));simp only[Act.put,sA,sB,sC])
 refine Ze rfl rfl (fun K hK=> ?_)
 go_simp
 have hal: ∀(o:Obj) (j:Nat),((w1.alloc o).drew).cell? ⟨bk,j,none⟩=w1.cell? ⟨bk,j,none⟩:=fun o j=>World.cell?_alloc_lt w1 o ⟨bk,j,none⟩ (Zd HB1.out)
 refine hK.out _ _ (fun _=>⟨(hal _ 0).trans d0,(hal _ 5).trans d1⟩) ?_
 clear hK K
 refine Ze rfl rfl (fun K hK=> ?_)
 have hoa:=hon.alloc (.cells #[.slice A n c,.slice none 0 0,.int .i64 ((k:Int)+1)] 180)
 have halotN:=hotN.alloc (.cells #[.slice A n c,.slice none 0 0,.int .i64 ((k:Int)+1)] 180)
 have halotB:=hotB.alloc (.cells #[.slice A n c,.slice none 0 0,.int .i64 ((k:Int)+1)] 180)
 have halotS:=hotS.alloc (.cells #[.slice A n c,.slice none 0 0,.int .i64 ((k:Int)+1)] 180)
 have halotM:=hotM.alloc (.cells #[.slice A n c,.slice none 0 0,.int .i64 ((k:Int)+1)] 180)
 have halotL:=hotL.alloc (.cells #[.slice A n c,.slice none 0 0,.int .i64 ((k:Int)+1)] 180)
 refine wp_append_own _ (.tmp 15) (.tmp 22) 52 rfl (bk+1) 180 i0 _ 3 56 Tryz.underlying52 hi0 hz0 hz1 hz2 rfl (by decide) (.slice vA kO vc) kO xO rfl hoa ⟨w1.heap.size,0,none⟩ 1 1 [.slice A n c,.slice none 0 0,.int .i64 ((k:Int)+1)] rfl rfl ?_ ?_ (by unfold maxLen;omega) (by omega) ?_ ?_
 ·exact V6 w1 _ _ _ 180
 ·intro u hu
  simp only[List.mem_cons,List.not_mem_nil,or_false] at hu
  rcases hu with rfl|rfl|rfl <;> rfl
 ·have:=Zd HB1.out
  show bk+1≤(w1.alloc _).heap.size
  simp
  omega
 intro v2 w2 ho2 hg2 hn2
 have hne:some bk≠(Value.slice vA kO vc).ownBlock:=by
  intro e
  have:=(hon.lt bk e.symm).1
  omega
 have hb2:w2.heap[bk]?=some (.cells (Zz ((k:Int)+1) vN vB vS vM (.slice vA kO vc) vL) 64 (0,0)):=by
  rw[hg2.block bk (by have:=Zd HB1.out;show bk < (w1.alloc _).heap.size;simp;omega) hne]
  exact(Below.heap_alloc w1 _ bk (Zd HB1.out)).trans HB1.out
 have g0:w2.cell? ⟨bk,0,none⟩=some (.int .i64 ((k:Int)+1)):=by rw[Za hb2];rfl
 have g1:w2.cell? ⟨bk,5,none⟩=some (.slice vA kO vc):=by rw[Za hb2];rfl
 have f1:w2.frozen? ⟨bk,5,none⟩=false:=Zb hb2
 have HB2:=Hd hb2
 have HotN:Hid (w2.ownsRow (bk+1) 191 3 vN kN xN):=Hd (Zv (by decide) halotN hoa ⟨hg2.os,hg2.tape,hg2.output,hg2.size,hg2.block⟩)
 have HotB:Hid (w2.ownsRow (bk+1) 194 3 vB kB xB):=Hd (Zv (by decide) halotB hoa ⟨hg2.os,hg2.tape,hg2.output,hg2.size,hg2.block⟩)
 have HotS:Hid (w2.ownsRow (bk+1) 201 3 vS kS xS):=Hd (Zv (by decide) halotS hoa ⟨hg2.os,hg2.tape,hg2.output,hg2.size,hg2.block⟩)
 have HotM:Hid (w2.ownsRow (bk+1) 177 3 vM kM xM):=Hd (Zv (by decide) halotM hoa ⟨hg2.os,hg2.tape,hg2.output,hg2.size,hg2.block⟩)
 have HotL:Hid (w2.ownsRow (bk+1) 183 3 vL kL xL):=Hd (Zv (by decide) halotL hoa ⟨hg2.os,hg2.tape,hg2.output,hg2.size,hg2.block⟩)
 have hk2:Kept (fun b=>b=bk∨(Value.slice vA kO vc).ownBlock=some b) w w2:=hk1.trans ⟨hg2.os,hg2.tape,hg2.output,Nat.le_trans (by simp) hg2.size,fun b hb hn=>(hg2.block b (Nat.lt_of_lt_of_le hb (by show _≤(w1.alloc _).heap.size;simp)) (fun e=>hn (.inr e.symm))).trans (Below.heap_alloc w1 _ b hb)⟩
 clear hb2 d0 d1 hal
 refine hK.out _ _ (fun _=>⟨g0,g1⟩) ?_
 clear hK K
 simp only[Act.put,sA,sB,sC]
 refine Ze rfl rfl (fun K hK=> ?_)
 go_simp
 refine hK.out _ _ (fun _=>⟨g0,g1⟩) ?_
 clear hK K
 refine Ze rfl rfl (fun K hK=> ?_)
 go_simp
 refine hK.out _ _ (fun _=>⟨g0,g1⟩) ?_
 clear hK K
 obtain⟨A2,c2,hv2⟩: ∃A c,v2= .slice A (kO+1) c:=by
  rcases ho2.2 with⟨rfl,e⟩|⟨g,cap,cur,rfl,_⟩
  ·omega
  ·exact⟨_,_,rfl⟩
 subst hv2
 refine Ze rfl rfl (fun K hK=> ?_)
 go_simp
 refine hK.out _ _ (fun h=>absurd rfl h) ?_
 clear hK K
 refine Zi ?_
 go_wp2
 go_end0
 refine⟨rfl,.slice A2 (kO+1) c2,⟨?_,ownsRow_setCell_below HotN.out (by simp) _,ownsRow_setCell_below HotB.out (by simp) _,ownsRow_setCell_below HotS.out (by simp) _,ownsRow_setCell_below HotM.out (by simp) _,?_,ownsRow_setCell_below HotL.out (by simp) _⟩,?_⟩
 ·rw[Zj HB2.out,Int.natCast_add]
  rfl
 ·exact ownsRow_setCell_below ho2 (by simp) _
 ·exact Kept.setCell (D:=(fun b=>b=bk∨(Value.slice vA kO vc).ownBlock=some b)) (p:=⟨bk,5,none⟩) hk2 (.inl (.inl rfl)) _
theorem Zh0 (bk k:Nat)(vN:Value)(kN:Nat)(xN:List Value)(vB:Value)(kB:Nat)(xB:List Value)(vS:Value)(kS:Nat)(xS:List Value)(vM:Value)(kM:Nat)(xM:List Value)(vO:Value)(kO:Nat)(xO:List Value)(vL:Value)(kL:Nat)(xL:List Value)(A:Option Addr)(n c:Nat)(w:World)(hB:ZZ w bk k vN kN xN vB kB xB vS kS xS vM kM xM vO kO xO vL kL xL)(hk:k≤1000)(hkk:kO≤1000):
  Calls Tryz.prog 129 #[.pointer (some ⟨bk,0,none⟩),.slice A n c] w fun e w'=>e= .returned (.tuple #[])∧ ∃v',ZZ w' bk (k+1) vN kN xN vB kB xB vS kS xS vM kM xM v' (kO+1) (xO++ [.slice A n c,.slice none 0 0,.int .i64 ((k:Int)+1)]) vL kL xL∧Kept (fun b=>b=bk∨vO.ownBlock=some b) w w':=by
 go_enter Tryz.func129,Tryz.ntmps129
 go_wp2_with fail
 refine(Zgx bk k vN kN xN vB kB xB vS kS xS vM kM xM vO kO xO vL kL xL A n c _ hB hk hkk).mono ?_
 rintro e w1 ⟨rfl,v1,hB1,hk1⟩
 go_wp2_with fail
 go_end0
 exact⟨rfl,v1,hB1,hk1⟩
theorem Zgy (bk k:Nat)(vN:Value)(kN:Nat)(xN:List Value)(vB:Value)(kB:Nat)(xB:List Value)(vS:Value)(kS:Nat)(xS:List Value)(vM:Value)(kM:Nat)(xM:List Value)(vO:Value)(kO:Nat)(xO:List Value)(vL:Value)(kL:Nat)(xL:List Value)(A:Option Addr)(n c:Nat)(w:World)(hB:ZZ w bk k vN kN xN vB kB xB vS kS xS vM kM xM vO kO xO vL kL xL)(hk:k≤1000)(hkk:kL≤1000):
  Calls Tryz.prog 130 #[.pointer (some ⟨bk,0,none⟩),.slice A n c] w fun e w'=>e= .returned (.tuple #[])∧ ∃v',ZZ w' bk (k+1) vN kN xN vB kB xB vS kS xS vM kM xM vO kO xO v' (kL+1) (xL++ [.slice A n c,.slice none 0 0,.int .i64 ((k:Int)+1)])∧Kept (fun b=>b=bk∨vL.ownBlock=some b) w w':=by
 obtain⟨i0,hi0,hz0,hz1,hz2⟩:=info_parts (show(Tryz.prog.info? 183).map (fun i=>(i.zero,i.size,i.bytes))=some (some (.agg #[.slice none 0 0,.slice none 0 0,.int .i64 0]),3,56) by kernel_rfl)
 have c0:w.cell? ⟨bk,0,none⟩=some (.int .i64 (k:Int)):=by rw[Za hB.blk];rfl
 have f0:w.frozen? ⟨bk,0,none⟩=false:=Zb hB.blk
 go_enter Tryz.func130,Tryz.ntmps130
 go_wp2
 have hb1:(w.setCell ⟨bk,0,none⟩ (.int .i64 ((k:Int)+1))).heap[bk]?=some (.cells (Zz ((k:Int)+1) vN vB vS vM vO vL) 64 (0,0)):=by rw[Zj hB.blk];rfl
 have hon:(w.setCell ⟨bk,0,none⟩ (.int .i64 ((k:Int)+1))).ownsRow (bk+1) 183 3 vL kL xL:=ownsRow_setCell_below hB.oL (by simp) _
 have hotN:(w.setCell ⟨bk,0,none⟩ (.int .i64 ((k:Int)+1))).ownsRow (bk+1) 191 3 vN kN xN:=ownsRow_setCell_below hB.oN (by simp) _
 have hotB:(w.setCell ⟨bk,0,none⟩ (.int .i64 ((k:Int)+1))).ownsRow (bk+1) 194 3 vB kB xB:=ownsRow_setCell_below hB.oB (by simp) _
 have hotS:(w.setCell ⟨bk,0,none⟩ (.int .i64 ((k:Int)+1))).ownsRow (bk+1) 201 3 vS kS xS:=ownsRow_setCell_below hB.oS (by simp) _
 have hotM:(w.setCell ⟨bk,0,none⟩ (.int .i64 ((k:Int)+1))).ownsRow (bk+1) 177 3 vM kM xM:=ownsRow_setCell_below hB.oM (by simp) _
 have hotO:(w.setCell ⟨bk,0,none⟩ (.int .i64 ((k:Int)+1))).ownsRow (bk+1) 180 3 vO kO xO:=ownsRow_setCell_below hB.oO (by simp) _
 have hk1:Kept (fun b=>b=bk∨vL.ownBlock=some b) w (w.setCell ⟨bk,0,none⟩ (.int .i64 ((k:Int)+1))):=Kept.setCell (D:=(fun b=>b=bk∨vL.ownBlock=some b)) (p:=⟨bk,0,none⟩) (Kept.refl _ _) (.inl (.inl rfl)) _
 have hbk:=Zd hB.blk
 clear c0 f0 hB
 generalize w.setCell ⟨bk,0,none⟩ (.int .i64 ((k:Int)+1))=w1 at*
 have d0:w1.cell? ⟨bk,0,none⟩=some (.int .i64 ((k:Int)+1)):=by rw[Za hb1];rfl
 have d1:w1.cell? ⟨bk,6,none⟩=some vL:=by rw[Za hb1];rfl
 obtain⟨vA,vc,hv⟩: ∃A c,vL= .slice A kL c:=by
  rcases hon.2 with⟨rfl,rfl⟩|⟨g,cap,cur,rfl,_⟩
  ·exact⟨_,_,rfl⟩
  ·exact⟨_,_,rfl⟩
 subst hv
 have HB1:=Hd hb1
 clear hb1
 refine wro [0,1,2,3,4,5,6,7,8,9,10,11,12,13,14,15] [11,12,13,14,15] 15 (fun w'=>w'.cell? ⟨bk,0,none⟩=some (.int .i64 ((k:Int)+1))∧w'.cell? ⟨bk,6,none⟩=some (.slice vA kL vc)) (by kernel_rfl) (fun _ _ _ _ _ h=>h) ⟨d0,d1⟩ ?_
 simp only[steps,sE,sD]
 repeat((first|refine Zg rfl ?_|(refine Zf (v:= ?_) rfl rfl ?_ ?_;rotate_left;(focus(rintro w' ⟨hS0,hS2⟩;go_simp;try with_reducible rfl))));simp only[Act.put,sA,sB,sC])
 refine Ze rfl rfl (fun K hK=> ?_)
 go_simp
 have hal: ∀(o:Obj) (j:Nat),((w1.alloc o).drew).cell? ⟨bk,j,none⟩=w1.cell? ⟨bk,j,none⟩:=fun o j=>World.cell?_alloc_lt w1 o ⟨bk,j,none⟩ (Zd HB1.out)
 refine hK.out _ _ (fun _=>⟨(hal _ 0).trans d0,(hal _ 6).trans d1⟩) ?_
 clear hK K
 refine Ze rfl rfl (fun K hK=> ?_)
 have hoa:=hon.alloc (.cells #[.slice A n c,.slice none 0 0,.int .i64 ((k:Int)+1)] 183)
 have halotN:=hotN.alloc (.cells #[.slice A n c,.slice none 0 0,.int .i64 ((k:Int)+1)] 183)
 have halotB:=hotB.alloc (.cells #[.slice A n c,.slice none 0 0,.int .i64 ((k:Int)+1)] 183)
 have halotS:=hotS.alloc (.cells #[.slice A n c,.slice none 0 0,.int .i64 ((k:Int)+1)] 183)
 have halotM:=hotM.alloc (.cells #[.slice A n c,.slice none 0 0,.int .i64 ((k:Int)+1)] 183)
 have halotO:=hotO.alloc (.cells #[.slice A n c,.slice none 0 0,.int .i64 ((k:Int)+1)] 183)
 refine wp_append_own _ (.tmp 15) (.tmp 22) 53 rfl (bk+1) 183 i0 _ 3 56 Tryz.underlying53 hi0 hz0 hz1 hz2 rfl (by decide) (.slice vA kL vc) kL xL rfl hoa ⟨w1.heap.size,0,none⟩ 1 1 [.slice A n c,.slice none 0 0,.int .i64 ((k:Int)+1)] rfl rfl ?_ ?_ (by unfold maxLen;omega) (by omega) ?_ ?_
 ·exact V6 w1 _ _ _ 183
 ·intro u hu
  simp only[List.mem_cons,List.not_mem_nil,or_false] at hu
  rcases hu with rfl|rfl|rfl <;> rfl
 ·have:=Zd HB1.out
  show bk+1≤(w1.alloc _).heap.size
  simp
  omega
 intro v2 w2 ho2 hg2 hn2
 have hne:some bk≠(Value.slice vA kL vc).ownBlock:=by
  intro e
  have:=(hon.lt bk e.symm).1
  omega
 have hb2:w2.heap[bk]?=some (.cells (Zz ((k:Int)+1) vN vB vS vM vO (.slice vA kL vc)) 64 (0,0)):=by
  rw[hg2.block bk (by have:=Zd HB1.out;show bk < (w1.alloc _).heap.size;simp;omega) hne]
  exact(Below.heap_alloc w1 _ bk (Zd HB1.out)).trans HB1.out
 have g0:w2.cell? ⟨bk,0,none⟩=some (.int .i64 ((k:Int)+1)):=by rw[Za hb2];rfl
 have g1:w2.cell? ⟨bk,6,none⟩=some (.slice vA kL vc):=by rw[Za hb2];rfl
 have f1:w2.frozen? ⟨bk,6,none⟩=false:=Zb hb2
 have HB2:=Hd hb2
 have HotN:Hid (w2.ownsRow (bk+1) 191 3 vN kN xN):=Hd (Zv (by decide) halotN hoa ⟨hg2.os,hg2.tape,hg2.output,hg2.size,hg2.block⟩)
 have HotB:Hid (w2.ownsRow (bk+1) 194 3 vB kB xB):=Hd (Zv (by decide) halotB hoa ⟨hg2.os,hg2.tape,hg2.output,hg2.size,hg2.block⟩)
 have HotS:Hid (w2.ownsRow (bk+1) 201 3 vS kS xS):=Hd (Zv (by decide) halotS hoa ⟨hg2.os,hg2.tape,hg2.output,hg2.size,hg2.block⟩)
 have HotM:Hid (w2.ownsRow (bk+1) 177 3 vM kM xM):=Hd (Zv (by decide) halotM hoa ⟨hg2.os,hg2.tape,hg2.output,hg2.size,hg2.block⟩)
 have HotO:Hid (w2.ownsRow (bk+1) 180 3 vO kO xO):=Hd (Zv (by decide) halotO hoa ⟨hg2.os,hg2.tape,hg2.output,hg2.size,hg2.block⟩)
 have hk2:Kept (fun b=>b=bk∨(Value.slice vA kL vc).ownBlock=some b) w w2:=hk1.trans ⟨hg2.os,hg2.tape,hg2.output,Nat.le_trans (by simp) hg2.size,fun b hb hn=>(hg2.block b (Nat.lt_of_lt_of_le hb (by show _≤(w1.alloc _).heap.size;simp)) (fun e=>hn (.inr e.symm))).trans (Below.heap_alloc w1 _ b hb)⟩
 clear hb2 d0 d1 hal
 refine hK.out _ _ (fun _=>⟨g0,g1⟩) ?_
 clear hK K
 simp only[Act.put,sA,sB,sC]
 refine Ze rfl rfl (fun K hK=> ?_)
 go_simp
 refine hK.out _ _ (fun _=>⟨g0,g1⟩) ?_
 clear hK K
 refine Ze rfl rfl (fun K hK=> ?_)
 go_simp
 refine hK.out _ _ (fun _=>⟨g0,g1⟩) ?_
 clear hK K
 obtain⟨A2,c2,hv2⟩: ∃A c,v2= .slice A (kL+1) c:=by
  rcases ho2.2 with⟨rfl,e⟩|⟨g,cap,cur,rfl,_⟩
  ·omega
  ·exact⟨_,_,rfl⟩
 subst hv2
 refine Ze rfl rfl (fun K hK=> ?_)
 go_simp
 refine hK.out _ _ (fun h=>absurd rfl h) ?_
 clear hK K
 refine Zi ?_
 go_wp2
 go_end0
 refine⟨rfl,.slice A2 (kL+1) c2,⟨?_,ownsRow_setCell_below HotN.out (by simp) _,ownsRow_setCell_below HotB.out (by simp) _,ownsRow_setCell_below HotS.out (by simp) _,ownsRow_setCell_below HotM.out (by simp) _,ownsRow_setCell_below HotO.out (by simp) _,?_⟩,?_⟩
 ·rw[Zj HB2.out,Int.natCast_add]
  rfl
 ·exact ownsRow_setCell_below ho2 (by simp) _
 ·exact Kept.setCell (D:=(fun b=>b=bk∨(Value.slice vA kL vc).ownBlock=some b)) (p:=⟨bk,6,none⟩) hk2 (.inl (.inl rfl)) _
end Go.Proofs.YtfmpecnkkbpdlaaGreatDoor
