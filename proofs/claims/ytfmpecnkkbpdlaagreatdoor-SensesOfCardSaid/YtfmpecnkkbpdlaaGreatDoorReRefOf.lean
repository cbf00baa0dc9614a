import Derived.Deep.QuietTactic
import Derived.BigQuiet
import Derived.OwnWalk
import Derived.Test.YtfmpecnkkbpdlaaGreatDoorReOf
set_option maxRecDepth 100000
set_option maxHeartbeats 8000000
namespace Go.Proofs.YtfmpecnkkbpdlaaGreatDoor.Re
open Go.Proofs.YtfmpecnkkbpdlaaGreatDoor.Bo (Bd bdc ZE V4 tmv wrap_small UX Vs VR)
open Go.RowKit
open La (bt)
def fls (n:Nat)(f:Nat→Bool):Nat:=((List.range n).filter fun j=> !f j).length
def isF:Value→Bool
 | .bool false=>true
 |_=>false
def Zez (w:World)(g:Nat):Nat:=match w.heap[g]? with
 |some (.cells cs _ _)=>(cs.toList.filter isF).length
 |_=>0
theorem ZcJ {w:World}{g n:Nat}{f:Nat→Bool}(h:w.heap[g]?=some (.cells (bls f n n) 4 (0,0))):Zez w g=fls n f:=by
 unfold Zez fls
 rw[h]
 show((bls f n n).toList.filter isF).length=_
 have e:(bls f n n).toList=(List.range n).map fun j=>Value.bool (f j):=by
  show((List.range n).map _)=_
  refine List.map_congr_left fun j hj=> ?_
  rw[decide_eq_true (List.mem_range.1 hj),Bool.true_and]
 rw[e,List.filter_map,List.length_map]
 congr 1
 refine List.filter_congr fun j _=> ?_
 show isF (.bool (f j))= !f j
 cases f j <;> rfl
def put1 (f:Nat→Bool)(b:Nat):Nat→Bool:=fun j=>if j=b then true else f j
theorem ZcK {f:Nat→Bool}{n b:Nat}(hb:b < n):(bls f n n).setIfInBounds b (.bool true)=bls (put1 f b) n n:=by
 apply Array.ext_getElem?
 intro x
 by_cases hx:x < n
 ·by_cases e:x=b
  ·subst e
   rw[Array.getElem?_setIfInBounds_self_of_lt (by simpa [bls] using hx),Vw hx]
   simp[put1,hx]
  ·rw[Array.getElem?_setIfInBounds_ne (by omega),Vw hx,Vw hx]
   simp[put1,e]
 ·rw[Array.getElem?_eq_none (by simp[bls];omega),Array.getElem?_eq_none (by simp[bls];omega)]
theorem Q3 {α:Type}(p q:α→Bool): ∀l:List α,(∀x∈l,p x=true→q x=true)→(l.filter p).length≤(l.filter q).length
 | [],_=>Nat.le_refl _
 |x::l,h=>by
  have ih:=Q3 p q l fun y hy=>h y (List.mem_cons_of_mem _ hy)
  have hx:=h x (List.mem_cons_self ..)
  rw[List.filter_cons,List.filter_cons]
  cases hp:p x with
  |true=>rw[hx hp];simpa using ih
  |false=>cases q x <;> simp <;> omega
theorem KQ {α:Type}(p q:α→Bool): ∀l:List α,(∀x∈l,p x=true→q x=true)→(∃x∈l,p x=false∧q x=true)→(l.filter p).length < (l.filter q).length
 | [],_,⟨x,hx,_⟩=>by cases hx
 |y::l,h,⟨x,hx,h1,h2⟩=>by
  have hl:=fun z hz=>h z (List.mem_cons_of_mem y hz)
  have hle:=Q3 p q l hl
  rw[List.filter_cons,List.filter_cons]
  rcases List.mem_cons.1 hx with rfl|hx
  ·rw[h1,h2]
   simp
   omega
  ·have ih:=KQ p q l hl ⟨x,hx,h1,h2⟩
   have hy:=h y (List.mem_cons_self ..)
   cases hp:p y with
   |true=>rw[hy hp];simpa using ih
   |false=>cases q y <;> simp <;> omega
theorem ZeA {f:Nat→Bool}{n b:Nat}(hb:b < n)(h:f b=false):fls n (put1 f b) < fls n f:=by
 refine KQ _ _ _ (fun j _ hj=> ?_) ⟨b,List.mem_range.2 hb,by simp[put1],by simp[h]⟩
 by_cases e:j=b
 ·simp[put1,e] at hj
 ·simpa [put1,e] using hj
def ZgL (f:Nat→Bool)(b:Bd):Prop:=b.av=true→b.bv=true→f b.an=true→f b.bn=true
structure Snd (q:Nat)(l:List Bd)(v:Nat)(f:Nat→Bool):Prop where
 ok: ∀j,f j=true→bt (rchN q l) v j=true
 self:f v=true
theorem Snd.done {q v:Nat}{l:List Bd}{f:Nat→Bool}(hn:q≤64)(hm: ∀b∈l,mayB q b=true)(h:Snd q l v f)(hs: ∀b∈l,ZgL f b)(j:Nat):f j=bt (rchN q l) v j:=by
 rw[Bool.eq_iff_iff]
 refine⟨h.ok j,fun hr=> ?_⟩
 exact ZfY hn hm (T:=fun i j=>f i=true→f j=true) (fun _ _ h=>h) (fun i j ⟨b,hb,h1,h2,e1,e2⟩ g=>by
  subst e1 e2
  exact hs b hb h1 h2 g) (fun _ _ _ g1 g2 g=>g2 (g1 g)) hr h.self
theorem Snd.put {q v:Nat}{l:List Bd}{f:Nat→Bool}(hn:q≤64)(hm: ∀b∈l,mayB q b=true)(h:Snd q l v f){b:Bd}(hb:b∈l)(h1:b.av=true)(h2:b.bv=true)(h3:f b.an=true):Snd q l v (put1 f b.bn):=by
 refine⟨fun j hj=> ?_,?_⟩
 ·by_cases e:j=b.bn
  ·rw[e]
   exact ZkG hn hm (h.ok _ h3) (ZhF hn hm ⟨b,hb,h1,h2,rfl,rfl⟩)
  ·exact h.ok j (by simpa [put1,e] using hj)
 ·unfold put1
  split
  ·rfl
  ·exact h.self
structure RAt (q:Nat)(l:List Bd)(v g:Nat)(wo:World)(f:Nat→Bool)(wr:World):Prop where
 row:wr.heap[g]?=some (.cells (bls f q q) 4 (0,0))
 snd:Snd q l v f
 kept:Kept (fun b=>b=g) wo wr
def MRel (q:Nat)(l:List Bd)(v g:Nat)(wo:World)(v10:Value)(wr:World):Prop:= ∃(f:Nat→Bool) (b:Bool),v10= .bool b∧RAt q l v g wo f wr∧(b=false→ ∀y∈l,ZgL f y)
def IRel (q:Nat)(l:List Bd)(v g:Nat)(wo:World)(f0:Nat→Bool)(v10 v11:Value)(wr:World):Prop:=
 ∃(i:Nat) (f:Nat→Bool) (b:Bool),v11= .int .i64 (i:Int)∧v10= .bool b∧i≤l.length∧RAt q l v g wo f wr∧(b=false→f=f0∧ ∀y∈l.take i,ZgL f0 y)∧(b=true→fls q f < fls q f0)∧fls q f≤fls q f0
def hd1 (n g:Nat):Value:= .slice (some ⟨g,0,none⟩) n n
structure OAt (q:Nat)(l:List Bd)(w:World)(v:Nat)(gs:Nat→Nat)(A:Option Addr)(c:Nat)(wr:World):Prop where
 own:wr.ownsRow w.heap.size 78 1 (.slice A v c) v (((List.range v).map gs).map (hd1 q))
 rows: ∀i,i < v→wr.heap[gs i]?=some (.cells (bls (bt (rchN q l) i) q q) 4 (0,0))
 bel:Below w.heap.size w wr
def ORel (q:Nat)(l:List Bd)(w:World)(v7 v8:Value)(wr:World):Prop:= ∃(v:Nat) (gs:Nat→Nat) (A:Option Addr) (c:Nat),v8= .int .i64 (v:Int)∧v7= .slice A v c∧v≤q∧OAt q l w v gs A c wr
def RefE (k:Int)(l:List Bd)(x:Int)(w:World)(e:Ending)(w':World):Prop:=
 (x≠0∧e= .returned (.tuple #[.slice none 0 0,.int .i64 x])∧Below w.heap.size w w')∨
  (x=0∧ ∃q A c gs,k=((q:Nat):Int)∧e= .returned (.tuple #[.slice A q c,.int .i64 0])∧OAt q l w q gs A c w')
theorem ZiH:(Tryz.prog.info? 78).map (fun i=>(i.zero,i.size,i.bytes))=some (some (.slice none 0 0),1,24):=by kernel_rfl
theorem ZgM (f:Nat→Bool)(n:Nat):bls f n 0=bls (fun _=>false) n n:=by
 apply Array.ext_getElem?
 intro x
 by_cases hx:x < n
 ·rw[Vw hx,Vw hx]
  simp
 ·rw[Array.getElem?_eq_none (by simp[bls];omega),Array.getElem?_eq_none (by simp[bls];omega)]
theorem ZgN (n:Nat)(h:n≤64)(W:World):(Instr.makeSlice 78 (.int .i64 (n:Int)) (.int .i64 (n:Int))).run Tryz.prog W= .ok (.slice (some ⟨W.heap.size,0,none⟩) n n) (W.alloc (.cells (bls (fun _=>false) n n) 4)):=by
 rw[Zc0 n (fun _=>false) h W,ZgM]
theorem ZeB {f g:Nat→Bool}(n:Nat)(h: ∀j,f j=g j):bls f n n=bls g n n:=by
 rw[show f=g from funext h]
def bw:Value→Nat
 | .bool true=>1
 |_=>0
theorem ZiI {W W':World}{b0 n b:Nat}{v:Value}{xs:List Value}{x:Array Value}(hv:W.ownsRow b0 78 1 v n xs)(hb:W.heap[b]?=some (.cells x 4 (0,0)))(hg:W.grownBy W' v.ownBlock):W'.heap[b]?=some (.cells x 4 (0,0)):=by
 refine(hg.block b (Zd hb) fun e=> ?_).trans hb
 rcases hv.2 with⟨rfl,_⟩|⟨g,cap,cur,rfl,_,h1,_⟩
 ·cases e
 ·have e:some b=some g:=e
  injection e with e
  subst e
  rw[h1] at hb
  injection hb with hb
  injection hb with _ hb
  cases hb
theorem ZcL {D:Nat→Prop}{W W':World}{base n sz:Nat}{E:TypeId}{v:Value}{xs:List Value}(h:W.ownsRow base E sz v n xs)(hk:Kept D W W')(hd: ∀b,D b→W.heap.size≤b):W'.ownsRow base E sz v n xs:=by
 refine⟨h.1,?_⟩
 rcases h.2 with hn|⟨g,cap,cur,hv,hb,hg,r⟩
 ·exact .inl hn
 ·exact .inr ⟨g,cap,cur,hv,hb,(hk.block g (Zd hg) fun hd'=>by have:=hd g hd';have:=Zd hg;omega).trans hg,r⟩
theorem ZgO {q v c c8 k8 g:Nat}{l:List Bd}{w wr wA w8:World}{gs:Nat→Nat}{A A8:Option Addr}{f:Nat→Bool}(h:OAt q l w v gs A c wr)(hR:RAt q l v g wr f wA)(hg:g=wr.heap.size)(hf: ∀j,f j=bt (rchN q l) v j)(o:Obj)
  (hk8:k8=v+1) (own8:w8.ownsRow w.heap.size 78 1 (.slice A8 k8 c8) k8 (((List.range v).map gs++ [g]).map (hd1 q))) (hg8:(wA.alloc o).grownBy w8 (Value.slice A v c).ownBlock):OAt q l w (v+1) (fun i=>if i=v then g else gs i) A8 c8 w8:=by
 subst hk8
 have hdd: ∀b,(fun b=>b=g) b→wr.heap.size≤b:=fun b e=>by
  have e:b=g:=e
  omega
 have ownA:=(ZcL h.own hR.kept hdd).alloc o
 have blkA: ∀(b:Nat) (x:Array Value),wA.heap[b]?=some (Obj.cells x 4 (0,0))→w8.heap[b]?=some (Obj.cells x 4 (0,0)):=fun b x hb=>ZiI ownA ((Below.heap_alloc wA o b (Zd hb)).trans hb) hg8
 refine⟨?_,fun i hi=> ?_,?_⟩
 ·have e:(List.range (v+1)).map (fun i=>if i=v then g else gs i)=(List.range v).map gs++ [g]:=by
   rw[List.range_succ,List.map_append]
   congr 1
   ·refine List.map_congr_left fun i hi=> ?_
    have:=List.mem_range.1 hi
    rw[if_neg (by omega)]
   ·simp
  rw[e]
  exact own8
 ·by_cases e:i=v
  ·subst e
   rw[if_pos rfl]
   have:=blkA g _ hR.row
   rwa [ZeB q hf] at this
  ·rw[if_neg e]
   have hri:=h.rows i (by omega)
   exact blkA (gs i) _ ((hR.kept.block _ (Zd hri) fun e2=>by have e2:gs i=g:=e2;have:=Zd hri;omega).trans hri)
 ·have hA:Below w.heap.size w wA:=h.bel.trans (hR.kept.below h.bel.size fun b e=>by have e:b=g:=e;have:=h.bel.size;omega)
  exact(hA.alloc hA.size o).grown hg8 (Nat.le_trans hA.size (by simp)) (fun j hj=>(h.own.lt j hj).1)
theorem U7 (k:Int)(A:Option Addr)(n c:Nat)(l:List Bd)(w:World)(x:Int)(h:Rs bdc 4 w w.heap.size A n c l)(hx:ofE k l=x):
  Calls Tryz.prog 118 #[.int .i64 k,.slice A n c] w (RefE k l x w):=by
 have hlen:=h.len
 by_cases h0:k < 0
 ·obtain rfl:(3:Int)=x:=by rw[← hx,ofE,if_pos (.inl h0)]
  clear hx h
  go_enter Tryz.func118,Tryz.ntmps118
  go_wp2
  go_ret2
  exact .inl ⟨by decide,rfl,Below.refl _ _⟩
 by_cases h1:64 < k
 ·obtain rfl:(3:Int)=x:=by rw[← hx,ofE,if_pos (.inr (.inl h1))]
  clear hx h
  go_enter Tryz.func118,Tryz.ntmps118
  go_wp2
  go_ret2
  exact .inl ⟨by decide,rfl,Below.refl _ _⟩
 by_cases h2:256 < n
 ·obtain rfl:(3:Int)=x:=by rw[← hx,ofE,if_pos (.inr (.inr (by rw[hlen];exact h2)))]
  have h2':(256:Int) < (n:Int):=by omega
  clear hx h h2
  go_enter Tryz.func118,Tryz.ntmps118
  go_wp2
  go_ret2
  exact .inl ⟨by decide,rfl,Below.refl _ _⟩
 obtain⟨q,rfl⟩: ∃q:Nat,k=(q:Int):=⟨k.toNat,by omega⟩
 have hq:q≤64:=by omega
 have h0': ¬(q:Int) < 0:=by omega
 have h2': ¬(256:Int) < (n:Int):=by omega
 have hx':(if l.all (mayB q) then(0:Int) else 1)=x:=by rw[← hx,ofE,if_neg (show ¬((q:Int) < 0∨64 < (q:Int)∨256 < l.length) by omega),Int.toNat_natCast]
 have HX:=Hd hx'
 have HQ:=Hd hq
 have HL:=Hd hlen
 have hw:=Bo.wrap_small (k:=q) (by omega)
 have htop:=h.top
 have hcap:=h.cap
 unfold maxLen at htop
 have HR:=Hd h
 clear hx hx' hq hlen h h0 h2
 go_enter Tryz.func118,Tryz.ntmps118
 go_wp2_with fail
 clear h0' h1 h2'
 go_loopw [6] (fun v6 wr=>UX (mayB q) l w v6 wr) (fun v6 _=>n - (intOf v6).toNat)
 case atStart=>exact⟨0,rfl,by omega,rfl,Below.refl _ _⟩
 case round=>
  obtain⟨i,rfl,hi,hall,hb⟩:=hrel
  by_cases hlt:i < n
  ·have hi':i < l.length:=by rw[HL.out];exact hlt
   have hr:=(HR.out.at_size lR hb)
   obtain⟨b,o,rfl,hbb,e0,e1,e2,e3⟩:=V4 hr hi'
   have HST:Hid ((l.take (i+1)).all (mayB q)=mayB q l[i]):=Hd (Vs hi' hall)
   have HNO:Hid (mayB q l[i]=false→l.all (mayB q)=false):=Hd fun e=>VR hi' e
   generalize l[i]=y at*
   obtain⟨av,an,bv,bn⟩:=y
   simp only at e0 e1 e2 e3
   have HB:=Hd hb
   have HLT:=Hd hlt
   have HIL:=Hd hi'
   clear hall hr hbb hi' hb
   cases av with
   |false=>
    cases bv with
    |false=>
     have HA:Hid ((l.take (i+1)).all (mayB q)=true):=Hd (by rw[HST.out];simp[mayB,mayV])
     clear HST HNO
     have hltn:=HLT.out
     go_wp2
     go_roundw
     case rel=>exact⟨i+1,by go_num,HIL.out,HA.out,HB.out⟩
     case measure=>
      have:=HLT.out
      simp[intOf]
      omega
    |true=>
     by_cases hd2:bn < q
     ·have hc2:decide ((q:Int)≤(bn:Int))=false:=by simp;omega
      have HA:Hid ((l.take (i+1)).all (mayB q)=true):=Hd (by rw[HST.out];simp[mayB,mayV,hd2])
      clear HST HNO
      have hltn:=HLT.out
      go_wp2
      go_roundw
      case rel=>exact⟨i+1,by go_num,HIL.out,HA.out,HB.out⟩
      case measure=>
       have:=HLT.out
       simp[intOf]
       omega
     ·have hc2:decide ((q:Int)≤(bn:Int))=true:=by simp;omega
      obtain rfl:(1:Int)=x:=by rw[← HX.out,HNO.out (by simp[mayB,mayV,hd2])];rfl
      clear HST HNO HX
      have hltn:=HLT.out
      go_wp2
      go_ret2
      exact .inl ⟨by decide,rfl,HB.out⟩
   |true=>
    by_cases hd1:an < q
    ·have hc1:decide ((q:Int)≤(an:Int))=false:=by simp;omega
     cases bv with
     |false=>
      have HA:Hid ((l.take (i+1)).all (mayB q)=true):=Hd (by rw[HST.out];simp[mayB,mayV,hd1])
      clear HST HNO
      have hltn:=HLT.out
      go_wp2
      go_roundw
      case rel=>exact⟨i+1,by go_num,HIL.out,HA.out,HB.out⟩
      case measure=>
       have:=HLT.out
       simp[intOf]
       omega
     |true=>
      by_cases hd2:bn < q
      ·have hc2:decide ((q:Int)≤(bn:Int))=false:=by simp;omega
       have HA:Hid ((l.take (i+1)).all (mayB q)=true):=Hd (by rw[HST.out];simp[mayB,mayV,hd1,hd2])
       clear HST HNO
       have hltn:=HLT.out
       go_wp2
       go_roundw
       case rel=>exact⟨i+1,by go_num,HIL.out,HA.out,HB.out⟩
       case measure=>
        have:=HLT.out
        simp[intOf]
        omega
      ·have hc2:decide ((q:Int)≤(bn:Int))=true:=by simp;omega
       obtain rfl:(1:Int)=x:=by rw[← HX.out,HNO.out (by simp[mayB,mayV,hd1,hd2])];rfl
       clear HST HNO HX
       have hltn:=HLT.out
       go_wp2
       go_ret2
       exact .inl ⟨by decide,rfl,HB.out⟩
    ·have hc1:decide ((q:Int)≤(an:Int))=true:=by simp;omega
     obtain rfl:(1:Int)=x:=by rw[← HX.out,HNO.out (by simp[mayB,mayV,hd1])];rfl
     clear HST HNO HX
     have hltn:=HLT.out
     go_wp2
     go_ret2
     exact .inl ⟨by decide,rfl,HB.out⟩
  ·obtain rfl:n=i:=by have:=HL.out;omega
   rw[List.take_of_length_le (by rw[HL.out];omega)] at hall
   obtain rfl:(0:Int)=x:=by rw[← HX.out,hall];rfl
   have HM:Hid (∀b∈l,mayB q b=true):=Hd (List.all_eq_true.1 hall)
   clear hall HX hlt hi
   obtain⟨i0,hi0,hz0,hz1,hz2⟩:=info_parts ZiH
   go_wp2
   go_loopw [7,8] (fun v7 v8 wr=>ORel q l w v7 v8 wr) (fun _ v8 _=>q - (intOf v8).toNat)
   case atStart=>exact⟨0,fun _=>0,none,0,rfl,rfl,Nat.zero_le _,⟨World.ownsRow_nil _ _ _ _,fun i hi=>absurd hi (Nat.not_lt_zero i),hb⟩⟩
   case round=>
    clear hb
    obtain⟨v,gs,A1,c1,rfl,rfl,hv,hO⟩:=hrel
    have HO:=Hd hO
    clear hO
    have hq64:=HQ.out
    by_cases hlt:v < q
    ·have HLT:=Hd hlt
     have hmk:=ZgN q HQ.out
     have hnew:=heap_alloc_new wr (.cells (bls (fun _=>false) q q) 4)
     have hce:=(Za (i:=v) hnew).trans (Vw hlt)
     have hfz:=Zb (i:=v) hnew
     have HRA:Hid (RAt q l v wr.heap.size wr (put1 (fun _=>false) v) (wr.alloc (.cells ((bls (fun _=>false) q q).setIfInBounds v (.bool true)) 4))):=Hd
      ⟨by rw[ZcK hlt];exact heap_alloc_new wr _,⟨fun j hj=>by
       by_cases e:j=v
       ·rw[e];exact ZhE HQ.out HM.out hlt
       ·simp[put1,e] at hj,by simp[put1]⟩,(Kept.refl _ _).alloc _⟩
     clear hnew
     go_wp2
     obtain⟨W0,rfl⟩: ∃W0,W0=wr:=⟨_,rfl⟩
     go_loopw [10] (fun v10 wz=>MRel q l v W0.heap.size W0 v10 wz) (fun v10 wz=>2*Zez wz W0.heap.size+bw v10)
     case atStart=>exact⟨_,true,rfl,HRA.out,fun h=>by cases h⟩
     case round=>
      clear HRA hce hfz hmk
      obtain⟨f,b,rfl,hR,hcl⟩:=hrel
      have HRR:=Hd hR
      have HCL:=Hd hcl
      clear hR hcl
      have hWb:w.heap.size≤W0.heap.size:=HO.out.bel.size
      cases b with
      |false=>
       have HF:Hid (∀j,f j=bt (rchN q l) v j):=Hd fun j=>HRR.out.snd.done HQ.out HM.out (HCL.out rfl) j
       have hdd: ∀b,(fun b=>b=W0.heap.size) b→W0.heap.size≤b:=fun b e=>Nat.le_of_eq (Eq.symm e)
       have HOWN:=Hd ((ZcL HO.out.own HRR.out.kept hdd).alloc (.cells #[.slice (some ⟨W0.heap.size,0,none⟩) q q] 78))
       have HRD:Hid (Rd (hd1 q) (wr.alloc (.cells #[.slice (some ⟨W0.heap.size,0,none⟩) q q] 78)) (wr.alloc (.cells #[.slice (some ⟨W0.heap.size,0,none⟩) q q] 78)).heap.size (some ⟨wr.heap.size,0,none⟩) 1 1 [W0.heap.size]):=Hd (Rd.new wr _ _ 1 [W0.heap.size] rfl rfl (by unfold maxLen;omega))
       have hbz:=HRR.out.kept.size
       clear HCL
       go_wp2_with (at_builtin;refine Va (enc:=hd1 q) _ rfl (.tmp 127) (.tmp 129) 41 rfl w.heap.size 78 i0 _ 24 Tryz.underlying41 hi0 hz0 hz1 hz2 rfl (fun _=>rfl) (.slice A1 v c1) v ((List.range v).map gs) rfl HOWN.out _ _ 1 1 [W0.heap.size] rfl HRD.out (by unfold maxLen;omega) (by omega) (by simp;omega) ?_;intro A8 k8 c8 w8 hk8 own8 hg8 _)
       have HN:=Hd (ZgO HO.out HRR.out rfl HF.out _ hk8.out own8 hg8)
       obtain rfl:v+1=k8:=hk8.out.symm
       clear hk8 own8 hg8 HOWN HRD HF
       have hltv:=HLT.out
       go_roundw
       case rel=>exact⟨v+1,_,A8,c8,by go_num,rfl,HLT.out,HN.out⟩
       case measure=>
        have:=HLT.out
        simp[intOf]
        omega
      |true=>
       clear HCL
       obtain⟨wm,rfl⟩: ∃wm,wm=wr:=⟨_,rfl⟩
       go_wp2
       go_loopw [10,11] (fun v10 v11 wz=>IRel q l v W0.heap.size W0 f v10 v11 wz) (fun _ v11 _=>n - (intOf v11).toNat)
       case atStart=>exact⟨0,f,false,rfl,rfl,Nat.zero_le _,HRR.out,fun _=>⟨rfl,fun y hy=>by simp at hy⟩,fun h=>(by cases h),Nat.le_refl _⟩
       case round=>
        obtain⟨i,f2,b2,rfl,rfl,hi,hR2,hfa,htr,hle⟩:=hrel
        have HR2:=Hd hR2
        have HI:=Hd (And.intro hi (And.intro hfa (And.intro htr hle)))
        clear hR2 hfa htr hle hi
        by_cases hlt2:i < n
        ·have hi':i < l.length:=by rw[HL.out];exact hlt2
         have hbw:Below w.heap.size w wr:=HO.out.bel.trans (HR2.out.kept.below hWb fun b e=>by have e:b=W0.heap.size:=e;omega)
         have hr:=HR.out.at_size lR hbw
         obtain⟨b,o,rfl,hbb,e0,e1,e2,e3⟩:=V4 hr hi'
         have hmy:=HM.out _ (List.getElem_mem hi')
         have hmem:=List.getElem_mem hi'
         obtain⟨y,hy⟩: ∃y,l[i]=y:=⟨_,rfl⟩
         rw[hy] at e0 e1 e2 e3 hmy hmem
         have HNC:Hid (ZgL f2 y→IRel q l v W0.heap.size W0 f (.bool b2) (.int .i64 ((i:Int)+1)) wr):=Hd fun hs=>⟨i+1,f2,b2,by go_num,rfl,hi',HR2.out,fun e=>by
          obtain⟨g1,g2⟩:=HI.out.2.1 e
          refine⟨g1,fun z hz=> ?_⟩
          rw[List.take_succ_eq_append_getElem hi',List.mem_append,List.mem_singleton] at hz
          rcases hz with hz|rfl
          ·exact g2 z hz
          ·rw[hy, ← g1]
           exact hs,HI.out.2.2.1,HI.out.2.2.2⟩
         have HCH:Hid (y.av=true→y.bv=true→f2 y.an=true→f2 y.bn=false→IRel q l v W0.heap.size W0 f (.bool true) (.int .i64 ((i:Int)+1)) (wr.setCell ⟨W0.heap.size,y.bn,none⟩ (.bool true))):=Hd fun g1 g2 g3 g4=>by
          have hbn:=(V3 hmy g1 g2).2
          have hl1:=ZeA hbn g4
          have hl2:=HI.out.2.2.2
          exact⟨i+1,put1 f2 y.bn,true,by go_num,rfl,hi',⟨by rw[Zj HR2.out.row,ZcK hbn],HR2.out.snd.put HQ.out HM.out hmem g1 g2 g3,Kept.setCell (D:=fun b=>b=W0.heap.size) (p:=⟨W0.heap.size,y.bn,none⟩) HR2.out.kept (.inl rfl) _⟩,fun e=>(by cases e),fun _=>by omega,by omega⟩
         clear hr hbb hi' hmem hbw hy
         obtain⟨av,an,bv,bn⟩:=y
         simp only at e0 e1 e2 e3 HCH
         cases av with
         |false=>
          have HREL:=Hd (HNC.out fun h=>(by cases h))
          clear HNC HCH hmy
          go_wp2
          go_roundw
          case rel=>exact HREL.out
          case measure=>simp[intOf];omega
         |true=>
          cases bv with
          |false=>
           have HREL:=Hd (HNC.out fun _ h=>(by cases h))
           clear HNC HCH hmy
           go_wp2
           go_roundw
           case rel=>exact HREL.out
           case measure=>simp[intOf];omega
          |true=>
           obtain⟨han,hbn⟩:=V3 hmy rfl rfl
           replace han:an < q:=han
           replace hbn:bn < q:=hbn
           have d1:=(Za (i:=an) HR2.out.row).trans (Vw han)
           have d2:=(Za (i:=bn) HR2.out.row).trans (Vw hbn)
           have d3:=Zb (i:=bn) HR2.out.row
           rw[decide_eq_true han,Bool.true_and] at d1
           rw[decide_eq_true hbn,Bool.true_and] at d2
           obtain⟨p1,hp1⟩: ∃p,f2 an=p:=⟨_,rfl⟩
           obtain⟨p2,hp2⟩: ∃p,f2 bn=p:=⟨_,rfl⟩
           rw[hp1] at d1
           rw[hp2] at d2
           have HP1:=Hd hp1
           have HP2:=Hd hp2
           clear hp1 hp2 hmy
           cases p1 with
           |false=>
            have HREL:=Hd (HNC.out fun _ _ h=>absurd (HP1.out.symm.trans h) (by decide))
            clear HNC HCH
            go_wp2
            go_roundw
            case rel=>exact HREL.out
            case measure=>simp[intOf];omega
           |true=>
            cases p2 with
            |true=>
             have HREL:=Hd (HNC.out fun _ _ _=>HP2.out)
             clear HNC HCH
             go_wp2
             go_roundw
             case rel=>exact HREL.out
             case measure=>simp[intOf];omega
            |false=>
             have HREL:=Hd (HCH.out rfl rfl HP1.out HP2.out)
             clear HNC HCH
             go_wp2
             go_roundw
             case rel=>exact HREL.out
             case measure=>simp[intOf];omega
        ·obtain rfl:n=i:=by have:=HL.out;have:=HI.out.1;omega
         have HM2:Hid (MRel q l v W0.heap.size W0 (.bool b2) wr):=Hd ⟨f2,b2,rfl,HR2.out,fun e=>by
          obtain⟨e1,e2⟩:=HI.out.2.1 e
          rw[List.take_of_length_le (by rw[HL.out];exact Nat.le_refl _)] at e2
          rw[e1]
          exact e2⟩
         have HMS:Hid (2*Zez wr W0.heap.size+bw (.bool b2) < 2*Zez wm W0.heap.size+bw (.bool true)):=Hd (by
          rw[ZcJ HR2.out.row,ZcJ HRR.out.row]
          obtain⟨_,e1,e2,e3⟩:=HI.out
          cases b2 with
          |true=>
           have:=e2 rfl
           show 2*_+1 < 2*_+1
           omega
          |false=>
           rw[(e1 rfl).1]
           show 2*_+0 < 2*_+1
           omega)
         go_wp2
         go_roundw
         case rel=>exact HM2.out
         case measure=>exact HMS.out
    ·obtain rfl:q=v:=by omega
     go_wp2
     go_ret2
     exact .inr ⟨rfl,q,A1,c1,gs,rfl,rfl,HO.out⟩
end Go.Proofs.YtfmpecnkkbpdlaaGreatDoor.Re
