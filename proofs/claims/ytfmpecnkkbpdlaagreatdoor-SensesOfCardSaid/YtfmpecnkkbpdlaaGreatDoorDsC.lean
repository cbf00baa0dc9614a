import Derived.Test.YtfmpecnkkbpdlaaGreatDoorBoRefO
import Derived.Test.YtfmpecnkkbpdlaaGreatDoorDsB
import Derived.Test.YtfmpecnkkbpdlaaGreatDoorReRefOf
import Derived.Test.YtfmpecnkkbpdlaaGreatDoorSen
import Derived.Test.YtfmpecnkkbpdlaaGreatDoorSlv2
set_option maxRecDepth 100000
set_option maxHeartbeats 4000000
namespace Go.Proofs.YtfmpecnkkbpdlaaGreatDoor
open Go.RowKit
def nm1 (x:Nat):List Value:= [La.nm x]
def bl1 (b:Bool):List Value:= [.bool b]
def sl1 (h:Option Addr×Nat×Nat):List Value:= [slc h]
theorem ZhT (l:List Nat):l.flatMap nm1=l.map La.nm:=by
 induction l with
 |nil=>rfl
 |cons x l ih=>rw[List.flatMap_cons,ih];rfl
theorem ZhU (l:List Bool):l.flatMap bl1=l.map Value.bool:=by
 induction l with
 |nil=>rfl
 |cons x l ih=>rw[List.flatMap_cons,ih];rfl
theorem ZhV (l:List (Option Addr×Nat×Nat)):l.flatMap sl1=l.map slc:=by
 induction l with
 |nil=>rfl
 |cons x l ih=>rw[List.flatMap_cons,ih];rfl
theorem Zgo (l:List Nat): ∀u∈l.flatMap nm1,u.oneCell'=true:=fun u hu=>by
 obtain⟨x,_,hx⟩:=List.mem_flatMap.1 hu
 simp only[nm1,List.mem_cons,List.not_mem_nil,or_false] at hx
 subst hx
 rfl
theorem Za1 (l:List Bool): ∀u∈l.flatMap bl1,u.oneCell'=true:=fun u hu=>by
 obtain⟨x,_,hx⟩:=List.mem_flatMap.1 hu
 simp only[bl1,List.mem_cons,List.not_mem_nil,or_false] at hx
 subst hx
 rfl
theorem ZjW (l:List (Option Addr×Nat×Nat)): ∀u∈l.flatMap sl1,u.oneCell'=true:=fun u hu=>by
 obtain⟨x,_,hx⟩:=List.mem_flatMap.1 hu
 simp only[sl1,List.mem_cons,List.not_mem_nil,or_false] at hx
 subst hx
 rfl
theorem RQ {W W':World}{b0 sz n:Nat}{E:TypeId}{v:Value}{xs:List Value}(h:W.ownsRow b0 E sz v n xs)(hk: ∀g cs,v.ownBlock=some g→W.heap[g]?=some (.cells cs E (0,0))→W'.heap[g]?=some (.cells cs E (0,0))):W'.ownsRow b0 E sz v n xs:=by
 refine⟨h.1,?_⟩
 rcases h.2 with hn|⟨g,cap,cur,hv,hb,hg,r⟩
 ·exact .inl hn
 ·exact .inr ⟨g,cap,cur,hv,hb,hk g cur (by rw[hv];rfl) hg,r⟩
theorem ZkO {W:World}{b0 sz n g:Nat}{E:TypeId}{v:Value}{xs:List Value}(h:W.ownsRow b0 E sz v n xs)(e:v.ownBlock=some g): ∃cs,W.heap[g]?=some (.cells cs E (0,0)):=by
 obtain⟨_,_,cur,hc⟩:=Zw h e
 exact⟨cur,hc⟩
theorem Zdt {W:World}{a b:Nat}{x y:Array Value}{E F:TypeId}(hne:E≠F)(h1:W.heap[a]?=some (.cells x E (0,0)))(h2:W.heap[b]?=some (.cells y F (0,0))):a≠b:=by
 rintro rfl
 rw[h1] at h2
 injection h2 with h2
 injection h2 with _ h2
 exact hne h2
theorem Vq {W W':World}{b1 sz' k g:Nat}{E F:TypeId}{u:Value}{ys:List Value}{cs:Array Value}(hne:E≠F)(hb:W.heap[g]?=some (.cells cs E (0,0)))(hu:W.ownsRow b1 F sz' u k ys)(hg:W.grownBy W' u.ownBlock):W'.heap[g]?=some (.cells cs E (0,0)):=
 (hg.block g (Zd hb) fun e=>by
  obtain⟨cs',h2⟩:=ZkO hu e.symm
  exact Zdt hne hb h2 rfl).trans hb
theorem VS {W W':World}{b0 b1 sz sz' n k:Nat}{E F:TypeId}{v u:Value}{xs ys:List Value}(hne:E≠F)(h:W.ownsRow b0 E sz v n xs)(hu:W.ownsRow b1 F sz' u k ys)(hg:W.grownBy W' u.ownBlock):W'.ownsRow b0 E sz v n xs:=
 RQ h fun _ _ _ hb=>Vq hne hb hu hg
theorem ZF {W:World}{b0 sz n q i:Nat}{E:TypeId}{v u:Value}{xs:List Value}{cs:Array Value}(hne:E≠43)(h:W.ownsRow b0 E sz v n xs)(hq:W.heap[q]?=some (.cells cs 43 (0,0))):(W.setCell ⟨q,i,none⟩ u).ownsRow b0 E sz v n xs:=
 RQ h fun g _ _ hb=>(Below.heap_setCell W ⟨q,i,none⟩ u g (Zdt hne hb hq)).trans hb
structure SnAt (w0:World)(g g5:Nat)(cs:Array Value)(l:List Sp)(P:Option Addr)(np cp:Nat)(ls hs:List Nat)(gs gr:List (Option Addr×Nat×Nat))(bs:List (List Bool))(vL vH vB:Value)(wr:World):Prop where
 bx:wr.heap[g]?=some (.cells cs 101 (0,0))
 zr:wr.heap[g+1]?=some (.cells #[.slice none 0 0,.slice none 0 0,.slice none 0 0,.slice none 0 0] 43 (0,0))
 out:wr.heap[g5]?=some (.cells #[.slice P np cp,vL,vH,vB] 43 (0,0))
 ng:g+1 < g5
 sp:wr.ownsRow g 119 5 (.slice P np cp) np (l.flatMap spc)
 oL:wr.ownsRow g 72 1 vL ls.length (ls.flatMap nm1)
 oH:wr.ownsRow g 72 1 vH hs.length (hs.flatMap nm1)
 oB:wr.ownsRow g 78 1 vB gs.length (gs.flatMap sl1)
 gl:gr.length=bs.length
 rows: ∀j (h:j < gr.length) (h':j < bs.length),wr.ownsRow g 4 1 (slc gr[j]) bs[j].length (bs[j].flatMap bl1)
 ap: ∀b,vL.ownBlock=some b→vH.ownBlock≠some b
 bel:Below g w0 wr
section
variable {w0:World} {g g5:Nat} {cs:Array Value} {l:List Sp} {P:Option Addr} {np cp:Nat} {ls hs:List Nat} {gs gr:List (Option Addr×Nat×Nat)} {bs:List (List Bool)} {vL vH vB:Value} {wr:World} (h:SnAt w0 g g5 cs l P np cp ls hs gs gr bs vL vH vB wr)
include h
theorem SnAt.keep {W:World}(hb:Below wr.heap.size wr W)(hle:g≤wr.heap.size):SnAt w0 g g5 cs l P np cp ls hs gs gr bs vL vH vB W:=
 ⟨(hb.block _ (Zd h.bx)).trans h.bx,(hb.block _ (Zd h.zr)).trans h.zr,(hb.block _ (Zd h.out)).trans h.out,h.ng,Z5 h.sp hb,Z5 h.oL hb,Z5 h.oH hb,Z5 h.oB hb,h.gl,fun j a b=>Z5 (h.rows j a b) hb,h.ap,h.bel.trans (hb.mono hle)⟩
theorem SnAt.size:g≤wr.heap.size:=by have:=Zd h.bx;omega
theorem SnAt.addL {W1:World}{A':Option Addr}{k c':Nat}(x:Nat)(hk:k=ls.length+1)(ha:Appended wr W1 g 72 1 vL (.slice A' k c') k ((ls++ [x]).flatMap nm1)):SnAt w0 g g5 cs l P np cp (ls++ [x]) hs gs gr bs (.slice A' k c') vH vB (W1.setCell ⟨g5,1,none⟩ (.slice A' k c')):=by
 have k5:W1.heap[g5]?=some (.cells #[.slice P np cp,vL,vH,vB] 43 (0,0)):=Vq (by decide) h.out h.oL ha.grown
 have kg:W1.heap[g]?=some (.cells cs 101 (0,0)):=Vq (by decide) h.bx h.oL ha.grown
 have kz:W1.heap[g+1]?=some (.cells #[.slice none 0 0,.slice none 0 0,.slice none 0 0,.slice none 0 0] 43 (0,0)):=Vq (by decide) h.zr h.oL ha.grown
 have hng:=h.ng
 refine⟨(Below.heap_setCell W1 ⟨g5,1,none⟩ _ g (by show g≠g5;omega)).trans kg,(Below.heap_setCell W1 ⟨g5,1,none⟩ _ (g+1) (by show g+1≠g5;omega)).trans kz,(Zj (i:=1) k5 _).trans rfl,h.ng,(ZF (by decide) (VS (by decide) h.sp h.oL ha.grown) k5),(ZF (by decide) (by have h1:=ha.own;subst hk;rw[List.length_append];exact h1) k5),(ZF (by decide) (RQ h.oH fun b cs hb hc=>(ha.grown.block b (Zd hc) fun e=>h.ap b e.symm hb).trans hc) k5),(ZF (by decide) (VS (by decide) h.oB h.oL ha.grown) k5),h.gl,fun j a b=>ZF (by decide) (VS (by decide) (h.rows j a b) h.oL ha.grown) k5,fun b e1 e2=>ha.apart (Zw h.oH e2).2.1 (fun e3=>h.ap b e3 e2) e1,?_⟩
 exact(h.bel.grown ha.grown h.size fun j hj=>(h.oL.lt j hj).1).setCell (p:=⟨g5,1,none⟩) (by show g≤g5;omega) _
theorem SnAt.addH {W1:World}{A':Option Addr}{k c':Nat}(x:Nat)(hk:k=hs.length+1)(ha:Appended wr W1 g 72 1 vH (.slice A' k c') k ((hs++ [x]).flatMap nm1)):SnAt w0 g g5 cs l P np cp ls (hs++ [x]) gs gr bs vL (.slice A' k c') vB (W1.setCell ⟨g5,2,none⟩ (.slice A' k c')):=by
 have k5:W1.heap[g5]?=some (.cells #[.slice P np cp,vL,vH,vB] 43 (0,0)):=Vq (by decide) h.out h.oH ha.grown
 have kg:W1.heap[g]?=some (.cells cs 101 (0,0)):=Vq (by decide) h.bx h.oH ha.grown
 have kz:W1.heap[g+1]?=some (.cells #[.slice none 0 0,.slice none 0 0,.slice none 0 0,.slice none 0 0] 43 (0,0)):=Vq (by decide) h.zr h.oH ha.grown
 have hng:=h.ng
 refine⟨(Below.heap_setCell W1 ⟨g5,2,none⟩ _ g (by show g≠g5;omega)).trans kg,(Below.heap_setCell W1 ⟨g5,2,none⟩ _ (g+1) (by show g+1≠g5;omega)).trans kz,(Zj (i:=2) k5 _).trans rfl,h.ng,(ZF (by decide) (VS (by decide) h.sp h.oH ha.grown) k5),(ZF (by decide) (RQ h.oL fun b cs hb hc=>(ha.grown.block b (Zd hc) fun e=>h.ap b hb e.symm).trans hc) k5),(ZF (by decide) (by have h1:=ha.own;subst hk;rw[List.length_append];exact h1) k5),(ZF (by decide) (VS (by decide) h.oB h.oH ha.grown) k5),h.gl,fun j a b=>ZF (by decide) (VS (by decide) (h.rows j a b) h.oH ha.grown) k5,fun b e1 e2=>ha.apart (Zw h.oL e1).2.1 (fun e3=>h.ap b e1 e3) e2,?_⟩
 exact(h.bel.grown ha.grown h.size fun j hj=>(h.oH.lt j hj).1).setCell (p:=⟨g5,2,none⟩) (by show g≤g5;omega) _
theorem SnAt.addB {W1:World}{A':Option Addr}{k c':Nat}(x:Option Addr×Nat×Nat)(hk:k=gs.length+1)(ha:Appended wr W1 g 78 1 vB (.slice A' k c') k ((gs++ [x]).flatMap sl1)):SnAt w0 g g5 cs l P np cp ls hs (gs++ [x]) gr bs vL vH (.slice A' k c') (W1.setCell ⟨g5,3,none⟩ (.slice A' k c')):=by
 have k5:W1.heap[g5]?=some (.cells #[.slice P np cp,vL,vH,vB] 43 (0,0)):=Vq (by decide) h.out h.oB ha.grown
 have kg:W1.heap[g]?=some (.cells cs 101 (0,0)):=Vq (by decide) h.bx h.oB ha.grown
 have kz:W1.heap[g+1]?=some (.cells #[.slice none 0 0,.slice none 0 0,.slice none 0 0,.slice none 0 0] 43 (0,0)):=Vq (by decide) h.zr h.oB ha.grown
 have hng:=h.ng
 refine⟨(Below.heap_setCell W1 ⟨g5,3,none⟩ _ g (by show g≠g5;omega)).trans kg,(Below.heap_setCell W1 ⟨g5,3,none⟩ _ (g+1) (by show g+1≠g5;omega)).trans kz,(Zj (i:=3) k5 _).trans rfl,h.ng,(ZF (by decide) (VS (by decide) h.sp h.oB ha.grown) k5),(ZF (by decide) (VS (by decide) h.oL h.oB ha.grown) k5),(ZF (by decide) (VS (by decide) h.oH h.oB ha.grown) k5),(ZF (by decide) (by have h1:=ha.own;subst hk;rw[List.length_append];exact h1) k5),h.gl,fun j a b=>ZF (by decide) (VS (by decide) (h.rows j a b) h.oB ha.grown) k5,h.ap,?_⟩
 exact(h.bel.grown ha.grown h.size fun j hj=>(h.oB.lt j hj).1).setCell (p:=⟨g5,3,none⟩) (by show g≤g5;omega) _
theorem SnAt.addR {hd:Option Addr×Nat×Nat}{b:List Bool}(hr:wr.ownsRow g 4 1 (slc hd) b.length (b.flatMap bl1)):SnAt w0 g g5 cs l P np cp ls hs gs (gr++ [hd]) (bs++ [b]) vL vH vB wr:=
 ⟨h.bx,h.zr,h.out,h.ng,h.sp,h.oL,h.oH,h.oB,by rw[List.length_append,List.length_append,h.gl];rfl,fun j a c=>by
  by_cases hl:j < gr.length
  ·rw[List.getElem_append_left hl,List.getElem_append_left (by rw[← h.gl];exact hl)]
   exact h.rows j hl (by rw[← h.gl];exact hl)
  ·have hj:j=gr.length:=by rw[List.length_append,List.length_singleton] at a;omega
   subst hj
   rw[List.getElem_append_right lR,List.getElem_append_right (by rw[h.gl];exact Nat.le_refl _)]
   simp only[h.gl,Nat.sub_self,List.getElem_singleton]
   exact hr,h.ap,h.bel⟩
end
theorem ZfR {W:World}{base q c:Nat}{gs:Nat→Nat}{P:Nat→Nat→Bool}{A:Option Addr}(ho:W.ownsRow base 78 1 (.slice A q c) q (((List.range q).map gs).map (Re.hd1 q)))(hr: ∀i,i < q→W.heap[gs i]?=some (.cells (Re.bls (P i) q q) 4 (0,0)))(hq:q≤64):Z8 W W.heap.size A q c (sqL q P):=by
 refine⟨(List.range q).map fun i=>(some ⟨gs i,0,none⟩,q,q),Rd.of_own (base:=base) (E:=78) ?_,by simp[sqL],fun i h1 h2=> ?_⟩
 ·rw[List.map_map] at ho ⊢
  exact ho
 ·have hi:i < q:=by simpa using h1
  have hb:=hr i hi
  simp only[List.getElem_map,List.getElem_range,Ui]
  refine⟨by simp,Nat.le_refl _,by unfold maxLen;omega,(fun e=>by cases e),fun h0=>⟨gs i,0,rfl,Zd hb,fun j hj=> ?_⟩⟩
  have hj':j < q:=by simpa using hj
  rw[Nat.zero_add,Za hb,Re.Vw hj']
  simp[hj']
def set6 (w:World)(g:Nat)(a b c d e f:Value):World:=(((((w.setCell ⟨g,0,none⟩ a).setCell ⟨g,1,none⟩ b).setCell ⟨g,2,none⟩ c).setCell ⟨g,3,none⟩ d).setCell ⟨g,4,none⟩ e).setCell ⟨g,5,none⟩ f
theorem Zdg {w:World}{g T:Nat}{x0 x1 x2 x3 x4 x5:Value}(h:w.heap[g]?=some (.cells #[x0,x1,x2,x3,x4,x5] T (0,0)))(a b c d e f:Value):(set6 w g a b c d e f).heap[g]?=some (.cells #[a,b,c,d,e,f] T (0,0)):=by
 unfold set6
 exact Zj (Zj (Zj (Zj (Zj (Zj h a) b) c) d) e) f
theorem Zaz {w:World}{g k:Nat}(h:k≠g)(a b c d e f:Value):(set6 w g a b c d e f).heap[k]?=w.heap[k]?:=by
 unfold set6
 exact(Below.heap_setCell _ _ _ k h).trans ((Below.heap_setCell _ _ _ k h).trans ((Below.heap_setCell _ _ _ k h).trans ((Below.heap_setCell _ _ _ k h).trans ((Below.heap_setCell _ _ _ k h).trans (Below.heap_setCell _ _ _ k h)))))
theorem RI {B:Nat}{w w':World}{g:Nat}(h:Below B w w')(hg:B≤g)(a b c d e f:Value):Below B w (set6 w' g a b c d e f):=
 ZL (ZL (ZL (ZL (ZL (ZL h hg _) hg _) hg _) hg _) hg _) hg _
theorem ZfS (w:World)(g:Nat)(a b c d e f:Value):(set6 w g a b c d e f).heap.size=w.heap.size:=by
 unfold set6
 rw[World.size_setCell,World.size_setCell,World.size_setCell,World.size_setCell,World.size_setCell,World.size_setCell]
theorem ZfT (t:Nat)(At:Option Addr)(mt ct et:Nat)(k:Int)(A:Option Addr)(n c:Nat)(l:List Bo.Bd)(S:Bo.Sr)(w:World)(hS:S.Ok)(hs:Bo.RSrt w.heap.size w t At mt ct et S)(h:Rs Bo.bdc 4 w w.heap.size A n c l)(hf: ∀b∈l,b.Fit)(hc:Bo.chkS S k l=0):
  Calls Tryz.prog 31 #[Bo.rsV t At mt ct et,.int .i64 k,.slice A n c] w fun e w'=> ∃t' B m d u A1 n1 c1 A2 n2 c2 A3 n3 c3 x,e= .returned (.tuple #[dsV t' B m d u A1 n1 c1 A2 n2 c2 A3 n3 c3,.int .i64 x])∧Below w.heap.size w w'∧
   ((x=10∧VA S k l)∨(x=0∧ ∃(q:Nat) (lo hi:List Nat),k=(q:Int)∧Got S q l lo hi∧DsAt w' S q lo hi (rcB q l) t' B m d u A1 n1 c1 A2 n2 c2 A3 n3 c3)):=by
 have HOK:=Hd hS
 have HS:=Hd hs
 obtain⟨q0,hk,hq,hl,hm⟩:=Bo.ZbW hc
 have HR:Hid (∀W,Below w.heap.size w W→Calls Tryz.prog 118 #[.int .i64 k,.slice A n c] W (Re.RefE k l 0 W)):=Hd fun W hW=>by
  have hx:Re.ofE k l=0:=by rw[hk];exact Re.Zin hq hl fun b hb=>Ziy (hm b hb)
  exact Re.U7 k A n c l W 0 (h.at_size lR hW) hx
 have HC:=Hd hc
 have HK:=Hd hk
 have HQ:=Hd hq
 have HM:=Hd hm
 obtain⟨x1,hx1⟩: ∃x,w.alloc (.cells #[.int .i64 (t:Int),.slice At mt ct,.int .i64 (et:Int)] 36)=x:=⟨_,rfl⟩
 obtain⟨x2,hx2⟩: ∃x,x1.alloc (.cells #[.int .i64 0,.slice none 0 0,.int .i64 0,.slice none 0 0,.slice none 0 0,.slice none 0 0] 101)=x:=⟨_,rfl⟩
 have b0:Below w.heap.size w x1:=hx1▸bA
 have sx:x1.heap.size=w.heap.size+1:=by rw[← hx1,World.size_alloc]
 have b1:Below x1.heap.size x1 x2:=hx2▸bA
 have sx2:x2.heap.size=w.heap.size+1+1:=by rw[← hx2,World.size_alloc,sx]
 have k0:x2.heap[w.heap.size]?=some (.cells #[.int .i64 (t:Int),.slice At mt ct,.int .i64 (et:Int)] 36 (0,0)):=(b1.block _ (by rw[sx];omega)).trans (hx1▸heap_alloc_new w _)
 have k1:x2.heap[w.heap.size+1]?=some (.cells #[.int .i64 0,.slice none 0 0,.int .i64 0,.slice none 0 0,.slice none 0 0,.slice none 0 0] 101 (0,0)):=by rw[← sx, ← hx2];exact heap_alloc_new x1 _
 have hb:Below w.heap.size w x2:=b0.trans (b1.mono b0.size)
 have hsol:=Bo.ZeV t At mt ct et k A n c l S x2 hS (hs.keep hb) (h.at_size lR hb) hf
 unfold Bo.rsV at hsol ⊢
 have HSOL:=Hd hsol
 have HB:=Hd hb
 have HK0:=Hd k0
 have HK1:=Hd k1
 have HSX:=Hd sx2
 have c0:=(Za (i:=0) k0).trans rfl
 have c1':=(Za (i:=1) k0).trans rfl
 have c2':=(Za (i:=2) k0).trans rfl
 replace c0:x2.cell? ⟨w.heap.size,0,none⟩=some (.int .i64 (t:Int)):=c0
 replace c1':x2.cell? ⟨w.heap.size,1,none⟩=some (.slice At mt ct):=c1'
 replace c2':x2.cell? ⟨w.heap.size,2,none⟩=some (.int .i64 (et:Int)):=c2'
 clear hS hs h hf hc hk hq hl hm hb b0 b1 sx sx2 k0 k1 hsol
 subst hx1
 go_enter Tryz.func31,Tryz.ntmps31
 go_wp2_with fail
 clear hx2
 refine HSOL.out.mono ?_
 rintro e w1 ⟨A1,n1,c1,A2,n2,c2,x,lo,hi,rfl,hlo,hhi,hsv,hv⟩
 have HLO:=Hd hlo
 have HHI:=Hd hhi
 have HSV:=Hd hsv
 have HV:=Hd hv
 have HB1:=Hd (HB.out.trans (hv.mono HB.out.size))
 have HO1:=Hd ((hv.block _ (by have:=HSX.out;omega)).trans HK1.out)
 have HB0:=Hd ((hv.block _ (by have:=HSX.out;omega)).trans HK0.out)
 have hx:x=10∨x=0:=by
  rcases hsv with⟨e1,e2,-,-⟩|⟨q1,e1,-,e2,-,-,e3⟩|⟨q1,e1,-,e2,-⟩
  ·exact absurd (e1.symm.trans HC.out) e2
  ·exact .inl e2
  ·exact .inr e2
 clear c0 c1' c2' hlo hhi hsv hv HSOL HB HK0 HK1
 rcases hx with rfl|rfl
 ·have o0:=(Za (i:=0) HO1.out).trans rfl
  have o1:=(Za (i:=1) HO1.out).trans rfl
  have o2:=(Za (i:=2) HO1.out).trans rfl
  have o3:=(Za (i:=3) HO1.out).trans rfl
  have o4:=(Za (i:=4) HO1.out).trans rfl
  have o5:=(Za (i:=5) HO1.out).trans rfl
  have z0:w1.frozen? ⟨w.heap.size+1,0,none⟩=false:=Zb HO1.out
  have z1:w1.frozen? ⟨w.heap.size+1,1,none⟩=false:=Zb HO1.out
  have z2:w1.frozen? ⟨w.heap.size+1,2,none⟩=false:=Zb HO1.out
  have z3:w1.frozen? ⟨w.heap.size+1,3,none⟩=false:=Zb HO1.out
  have z4:w1.frozen? ⟨w.heap.size+1,4,none⟩=false:=Zb HO1.out
  have z5:w1.frozen? ⟨w.heap.size+1,5,none⟩=false:=Zb HO1.out
  go_wp2_with fail
  refine bodyPost_ret (v:= .tuple #[dsV 0 none 0 0 0 none 0 0 none 0 0 none 0 0,.int .i64 10]) ?_ rfl ⟨0,none,0,0,0,none,0,0,none,0,0,none,0,0,10,rfl,?_,.inl ⟨rfl,?_⟩⟩
  ·exact results_cell_tmp (P:=Tryz.prog) rfl _ _ (w.heap.size+1) 101 _ (0,0) _ rfl (Zdg HO1.out _ _ _ _ _ _) Tryz.underlying101 rfl rfl _ rfl
  ·exact RI HB1.out (by omega) _ _ _ _ _ _
  ·rcases HSV.out with⟨e1,e2,-,-⟩|⟨q1,e1,-,e2,-,-,e3⟩|⟨q1,e1,-,e2,-⟩
   ·exact absurd (e1.symm.trans HC.out) e2
   ·exact⟨q1,e1,e3⟩
   ·cases e2
 go_wp2_with fail
 refine(HR.out _ HB1.out).mono ?_
 rintro e w2 he
 rcases he with⟨h0,-⟩|⟨-,q,A3,c3,gs,hkq,rfl,hoa⟩
 ·exact absurd rfl h0
 have hv2:=hoa.bel
 have HV2:=Hd hv2
 have HOA:=Hd hoa
 have HKQ:=Hd hkq
 have HB2:=Hd (HB1.out.trans (hv2.mono HB1.out.size))
 have ho2:=(hv2.block _ (Zd HO1.out)).trans HO1.out
 have hz2:=(hv2.block _ (Zd HB0.out)).trans HB0.out
 have HO2:=Hd ho2
 have c0:w2.cell? ⟨w.heap.size,0,none⟩=some (.int .i64 (t:Int)):=(Za (i:=0) hz2).trans rfl
 have c1':w2.cell? ⟨w.heap.size,1,none⟩=some (.slice At mt ct):=(Za (i:=1) hz2).trans rfl
 have c2':w2.cell? ⟨w.heap.size,2,none⟩=some (.int .i64 (et:Int)):=(Za (i:=2) hz2).trans rfl
 have o0:=(Za (i:=0) ho2).trans rfl
 have o1:=(Za (i:=1) ho2).trans rfl
 have o2:=(Za (i:=2) ho2).trans rfl
 have o3:=(Za (i:=3) ho2).trans rfl
 have o4:=(Za (i:=4) ho2).trans rfl
 have o5:=(Za (i:=5) ho2).trans rfl
 have z0:w2.frozen? ⟨w.heap.size+1,0,none⟩=false:=Zb ho2
 have z1:w2.frozen? ⟨w.heap.size+1,1,none⟩=false:=Zb ho2
 have z2:w2.frozen? ⟨w.heap.size+1,2,none⟩=false:=Zb ho2
 have z3:w2.frozen? ⟨w.heap.size+1,3,none⟩=false:=Zb ho2
 have z4:w2.frozen? ⟨w.heap.size+1,4,none⟩=false:=Zb ho2
 have z5:w2.frozen? ⟨w.heap.size+1,5,none⟩=false:=Zb ho2
 clear hv2 hoa hkq ho2 hz2 HR
 go_wp2_with fail
 refine bodyPost_ret (v:= .tuple #[dsV t At mt ct et A1 n1 c1 A2 n2 c2 A3 q c3,.int .i64 0]) ?_ rfl ?_
 ·exact results_cell_tmp (P:=Tryz.prog) rfl _ _ (w.heap.size+1) 101 _ (0,0) _ rfl (Zdg HO2.out _ _ _ _ _ _) Tryz.underlying101 rfl rfl _ rfl
 ·have hbf:=RI (g:=w.heap.size+1) HB2.out (by omega) (.int .i64 (t:Int)) (.slice At mt ct) (.int .i64 (et:Int)) (.slice A1 n1 c1) (.slice A2 n2 c2) (.slice A3 q c3)
  refine⟨t,At,mt,ct,et,A1,n1,c1,A2,n2,c2,A3,q,c3,0,rfl,hbf,.inr ⟨rfl,?_⟩⟩
  rcases HSV.out with⟨e1,e2,-,-⟩|⟨q1,e1,-,e2,-,-,e3⟩|⟨q1,e1,-,e2,hlo,hhi,hho⟩
  ·exact absurd rfl e2
  ·cases e2
  ·have hqq:q1=q:=by have:=HKQ.out;omega
   subst hqq
   have hqk:q1≤64:=by have:=HK.out;have:=HQ.out;omega
   have hqe:q0=q1:=by have:=HK.out;omega
   have hmm: ∀b∈l,Bo.mayB S q1 b=true:=hqe▸HM.out
   have hne: ∀o v,w1.cell? ⟨w.heap.size+1,o,none⟩=some v→ ∀x:Nat,v≠La.nm x:=fun o v hv x e=>by
    rw[Za HO1.out] at hv
    subst e
    have ho:o=0∨o=1∨o=2∨o=3∨o=4∨o=5:=by
     have:=(Array.getElem?_eq_some_iff.1 hv).1
     simp at this
     omega
    rcases ho with rfl|rfl|rfl|rfl|rfl|rfl <;> simp[La.nm] at hv
   have hk: ∀k,k < w1.heap.size→k≠w.heap.size+1→(set6 w2 (w.heap.size+1) (.int .i64 (t:Int)) (.slice At mt ct) (.int .i64 (et:Int)) (.slice A1 n1 c1) (.slice A2 n2 c2) (.slice A3 q1 c3)).heap[k]?=w1.heap[k]?:=fun k h1 h2=>(Zaz h2 _ _ _ _ _ _).trans (HV2.out.block k h1)
   have hsz:w1.heap.size≤(set6 w2 (w.heap.size+1) (.int .i64 (t:Int)) (.slice At mt ct) (.int .i64 (et:Int)) (.slice A1 n1 c1) (.slice A2 n2 c2) (.slice A3 q1 c3)).heap.size:=by
    rw[ZfS]
    exact HV2.out.size
   have hgot:Got S q1 l lo hi:=⟨HOK.out,hqk,hmm,hlo,hhi,hho⟩
   have hfit:=Bo.UE HOK.out HSV.out
   refine⟨q1,lo,hi,e1,hgot,⟨HS.out.keep hbf,HLO.out.off hne hk hsz,HHI.out.off hne hk hsz,ZfR (base:=w1.heap.size) (gs:=gs) ?_ (fun i hi=> ?_) hqk,hlo.has.1,hhi.has.1,hfit.1,hfit.2,hqk⟩⟩
   ·exact RQ HOA.out.own fun g _ _ hb=>(Zaz (Zdt (by decide) hb HO2.out) _ _ _ _ _ _).trans hb
   ·have hr:=HOA.out.rows i hi
    exact(Zaz (Zdt (by decide) hr HO2.out) _ _ _ _ _ _).trans hr
end Go.Proofs.YtfmpecnkkbpdlaaGreatDoor
