import Derived.Test.YtfmpecnkkbpdlaaGreatDoorBoChk
import Derived.Test.YtfmpecnkkbpdlaaGreatDoorBoSlv
import Derived.Test.YtfmpecnkkbpdlaaGreatDoorEach
import Derived.Test.YtfmpecnkkbpdlaaGreatDoorLaOrd
namespace Go.Proofs.YtfmpecnkkbpdlaaGreatDoor.Bo
open Go.RowKit
theorem Zar {S:Sr}(hS:S.Ok){k:Nat}{l:List Bd}{v u:List Nat}(h:Y7 S k l v)(h':Y7 S k l u):v=u:=by
 apply List.ext_getElem (h.has.1.trans h'.has.1.symm)
 intro i h1 h2
 have hi:i < k:=by rw[← h.has.1];exact h1
 have a:=h.low u h'.has h'.led i hi
 have b:=h'.low v h.has h.led i hi
 rw[getD_at h1,getD_at h2] at a b
 exact hS.anti _ _ a b
theorem UE {S:Sr}(hS:S.Ok){k:Int}{l:List Bd}{x:Int}{lo hi:List Nat}(h:Za4 S k l x lo hi):La.Fit lo∧La.Fit hi:=by
 rcases h with⟨c1,n1,rfl,rfl⟩|⟨q,e,c1,rfl,rfl,rfl,no⟩|⟨q,e,c1,rfl,h1,h2,h3⟩
 ·exact⟨(fun _ h=>by cases h),fun _ h=>by cases h⟩
 ·exact⟨(fun _ h=>by cases h),fun _ h=>by cases h⟩
 ·exact⟨Qz hS h1.has,Qz hS.turn h2.has⟩
end Go.Proofs.YtfmpecnkkbpdlaaGreatDoor.Bo
namespace Go.Proofs.YtfmpecnkkbpdlaaGreatDoor.Bo
open Go
section
variable (P:Program) (ops:Array Oper)
def Ry (S:World→Prop)(E:Act→World→Prop):List (Nat×Oper)→Act→World→Prop
 | [],a,w=>E a w
 |(_,o)::r,a,w=>Region.wanted o (yielded ops a.tmps)=true∧ ∃v,(∀w',S w'→(execOp a.eval o).run P w'= .ok (.value v) w')∧Ry S E r (a.put o.dst v) w
def Zc9 (stop:Nat):List (Nat×Oper)→Array Bool→Bool
 | [],_=>true
 |x::r,listed=>(Region.ready .any ops listed).contains x.1 && Region.free .any ops listed x.1 && waits ops stop x.1 && x.1 !=stop && Zc9 stop r (listed.setIfInBounds x.1 true)
def marks:List (Nat×Oper)→Array Bool→Array Bool
 | [],listed=>listed
 |x::r,listed=>marks r (listed.setIfInBounds x.1 true)
end
section
variable {P:Program} {ops:Array Oper} {Q:Exit→Act→World→Prop} {S:World→Prop} {stop:Nat} {hards:List Nat}
theorem Zda (hsel:Region.noSelect ops=true)(hQ: ∀c a d v w,Q (.panic c) (Act.put a (some d) v) w→Q (.panic c) a w){E:Act→World→Prop}{rest:Nat}:
  ∀(order:List (Nat×Oper)) (listed:Array Bool) (a:Act) (w:World),(∀x∈order,ops[x.1]?=some x.2)→Zc9 ops stop order listed=true→S w→
   (∀a w,S w→E a w→Uj P ops Q S stop rest (marks order listed) a w)→Ry P ops S E order a w→Uj P ops Q S stop (order.length+rest) listed a w
 | [],listed,a,w,_,_,hS,hE,h=>by
  rw[List.length_nil,Nat.zero_add]
  exact hE a w hS h
 |(i,o)::r,listed,a,w,hm,hok,hS,hE,⟨hw,v,hy,h⟩=>by
  simp only[Zc9,Bool.and_eq_true,bne_iff_ne,ne_eq] at hok
  obtain⟨⟨⟨⟨hc,hf⟩,hwt⟩,hns⟩,hrest⟩:=hok
  have ho:ops[i]?=some o:=hm (i,o) List.mem_cons_self
  have ih:=Zda hsel hQ r (listed.setIfInBounds i true) (a.put o.dst v) w (fun x hx=>hm x (List.mem_cons_of_mem _ hx)) hrest hS hE h
  rw[List.length_cons,show r.length+1+rest=(r.length+rest)+1 by omega]
  exact QX ho (Region.noSelect_spec hsel) (fun c a w=>KP hQ c a _ _ w) hns (QY hwt) _ listed a w (Region.free_spec ho hf) (by simpa using hc) (.inl ⟨hw,hy⟩) hS ih
theorem Zhl {i j:Nat}{oi oj:Oper}{listed:Array Bool}{a:Act}{w:World}{fuel:Nat}(hr:Region.ready .any ops listed= [i,j])(hi:ops[i]?=some oi)(hj:ops[j]?=some oj)
  (hwi:Region.wanted oi (yielded ops a.tmps)=true) (hwj:Region.wanted oj (yielded ops a.tmps)=true)
  (h1:Oper.wp P oi a w (fun a' w'=>(i≠stop→S w')∧Uj P ops Q S stop fuel (listed.setIfInBounds i true) a' w') Q)
  (h2:Oper.wp P oj a w (fun a' w'=>(j≠stop→S w')∧Uj P ops Q S stop fuel (listed.setIfInBounds j true) a' w') Q):Uj P ops Q S stop (fuel+1) listed a w:=by
 refine⟨fun h0=>(by rw[hr] at h0;cases h0),fun k hk=> ?_⟩
 rw[hr] at hk
 have hk':k=i∨k=j:=by simpa using hk
 unfold wpOp
 rcases hk' with rfl|rfl
 ·simp only[hi,hwi,if_true]
  exact .inl h1
 ·simp only[hj,hwj,if_true]
  exact .inl h2
theorem QS {id:Nat}{l:List Oper}{a:Act}{w:World}(first:List Nat)(i j:Nat)(oi oj:Oper)(ri rj:List Nat)(hards:List Nat)(stop:Nat)(S:World→Prop)(hm:P.follows .mixedOrders=true)(hsel:Region.noSelect l.toArray=true)
  (hi:l[i]?=some oi) (hj:l[j]?=some oj) (hgi:oi.guard=none) (hgj:oj.guard=none)
  (hok:Zc9 l.toArray stop (steps l first) (Array.replicate l.length false)=true) (hr:(Region.ready .any l.toArray (marks (steps l first) (Array.replicate l.length false))== [i,j])=true)
  (hoki:RU l.toArray stop hards (steps l ri) ((marks (steps l first) (Array.replicate l.length false)).setIfInBounds i true)=true)
  (hokj:RU l.toArray stop hards (steps l rj) ((marks (steps l first) (Array.replicate l.length false)).setIfInBounds j true)=true)
  (hleni:((steps l first).length+(steps l ri).length+1==l.length)=true) (hlenj:((steps l rj).length==(steps l ri).length)=true)
  (hQ: ∀c a d v w,Q (.panic c) (Act.put a (some d) v) w→Q (.panic c) a w) (hS:S w.drew)
  (h:Ry P l.toArray S (fun a w=>Oper.wp P oi a w (fun a' w'=>S w'∧Un P l.toArray Q S stop hards (steps l ri) a' w') Q∧Oper.wp P oj a w (fun a' w'=>S w'∧Un P l.toArray Q S stop hards (steps l rj) a' w') Q) (steps l first) a w.drew):
  (Code.region id l.toArray true).wp P Q a w:=by
 have hmem: ∀(o:List Nat) (x:Nat×Oper),x∈steps l o→l.toArray[x.1]?=some x.2:=fun o x hx=>by rw[List.getElem?_toArray];exact Uu l o x hx
 have hlen:(steps l first).length+((steps l ri).length+1)=l.toArray.size:=by rw[List.size_toArray];simp only[beq_iff_eq] at hleni;omega
 simp only[beq_iff_eq] at hr hlenj
 suffices key:Uj P l.toArray Q S stop ((steps l first).length+((steps l ri).length+1)) (Array.replicate l.length false) a w.drew by
  rw[hlen] at key
  exact wp_region_any hm (Ko (S:=S) (stop:=stop) _ _ _ _ key)
 refine Zda hsel hQ (steps l first) _ a w.drew (hmem first) hok hS (fun a w _ hE=> ?_) h
 refine Zhl hr (by rw[List.getElem?_toArray];exact hi) (by rw[List.getElem?_toArray];exact hj) (by simp[Region.wanted,hgi]) (by simp[Region.wanted,hgj]) ?_ ?_
 ·exact Oper.wp_mono (fun a' w' ⟨s1,s2⟩=>⟨fun _=>s1,UY hsel hQ (steps l ri) _ _ a' w' (hmem ri) lR hoki (fun _=>s1) s2⟩) hE.1
 ·exact Oper.wp_mono (fun a' w' ⟨s1,s2⟩=>⟨fun _=>s1,UY hsel hQ (steps l rj) _ _ a' w' (hmem rj) (by omega) hokj (fun _=>s1) s2⟩) hE.2
theorem Zhm {E:Act→World→Prop}{i:Nat}{r:List (Nat×Oper)}{a:Act}{w:World}{o:Oper}{v:Value}(hw:Region.wanted o (yielded ops a.tmps)=true)
  (hy: ∀w',S w'→(execOp a.eval o).run P w'= .ok (.value v) w') (h:Ry P ops S E r (a.put o.dst v) w):Ry P ops S E ((i,o)::r) a w:=
 ⟨hw,v,hy,h⟩
theorem Zhn {E:Act→World→Prop}{a:Act}{w:World}(h:E a w):Ry P ops S E [] a w:=h
end
open Go.RowKit
theorem Zfv (l:List Bd): ∀u∈l.flatMap bdc,u.oneCell'=true:=by
 intro u hu
 obtain⟨x,_,hx⟩:=List.mem_flatMap.1 hu
 simp only[bdc,List.mem_cons,List.not_mem_nil,or_false] at hx
 rcases hx with rfl|rfl|rfl|rfl <;> rfl
theorem Zjp:(Tryz.prog.info? 133).map (fun i=>(i.zero,i.size,i.bytes))=some (some (.agg #[.bool false,.int .u64 0,.bool false,.int .u64 0]),4,32):=by kernel_rfl
theorem YU:(Tryz.prog.info? 72).map (fun i=>(i.zero,i.size,i.bytes))=some (some (.int .u64 0),1,8):=by kernel_rfl
theorem Zjq {E:TypeId}{z:Value}{sz bytes:Nat}(h:(Tryz.prog.info? E).map (fun i=>(i.zero,i.size,i.bytes))=some (some z,sz,bytes)): ∃i,Tryz.prog.info? E=some i∧i.zero=some z∧i.size=sz∧i.bytes=bytes:=by
 cases hi:Tryz.prog.info? E with
 |none=>rw[hi] at h;cases h
 |some i=>
  rw[hi] at h
  simp only[Option.map_some,Option.some.injEq,Prod.mk.injEq] at h
  exact⟨i,rfl,h.1,h.2.1,h.2.2⟩
theorem VX {α:Type}{enc:α→List Value}{sz bytes:Nat}{t E:TypeId}{z:Value}(he: ∀x,(enc x).length=sz)(hsz:0 < sz)(h1: ∀l:List α,∀u∈l.flatMap enc,u.oneCell'=true)(ht:Tryz.prog.underlying t=some (.slice E))(hinf:(Tryz.prog.info? E).map (fun i=>(i.zero,i.size,i.bytes))=some (some z,sz,bytes))(hzs:z.cells.size=sz)(hby:bytes≤1000)
  {w:World} {o:Oper} {a:Act} {K:Act→World→Prop} {Q:Exit→Act→World→Prop} (s x:Operand)
  (ho:o.op= .call {callee:= .builtin .append,args:= #[s,x],argTypes:= #[t,t]})
  (base:Nat) (v:Value) (n:Nat) (vs:List α) (hs:a.eval s=v) (hown:w.ownsRow base E sz v n (vs.flatMap enc)) (B:Nat) (A:Option Addr) (m c:Nat) (ms:List α) (hx:a.eval x= .slice A m c) (hr:Rs enc sz w B A m c ms)
  (hsm:n+m≤100000) (hbase:base≤w.heap.size)
  (h: ∀A' k c' w',Hid (k=n+m)→Hid (Appended w w' base E sz v (.slice A' k c') k ((vs++ms).flatMap enc))→K (a.put o.dst (.slice A' k c')) w'):o.wp Tryz.prog a w K Q:=by
 obtain⟨i0,hi0,hz0,hz1,hz2⟩:=Zjq hinf
 have key: ∃v' w',(Builtin.append_ #[t,t] o.type #[v,.slice A m c]).run Tryz.prog w= .ok v' w'∧Appended w w' base E sz v v' (n+m) ((vs++ms).flatMap enc):=by
  rcases A with _|ad
  ·have hc0:=hr.none0 rfl
   have hm0:m=0:=by have:=hr.cap;omega
   subst hc0
   subst hm0
   have hms:ms= []:=List.eq_nil_of_length_eq_zero hr.len
   subst hms
   exact⟨v,w,run_append_owned_none (P:=Tryz.prog) w base t o.type E i0 sz ht hi0 v n _ hown,⟨by simpa using hown,⟨rfl,rfl,rfl,Nat.le_refl _,fun _ _ _=>rfl⟩,.inl rfl⟩⟩
  ·have hcells: ∀j y,(ms.flatMap enc)[j]?=some y→w.cell? (ad.add j)=some y:=by
    rcases Nat.eq_zero_or_pos m with h0|h0
    ·have hms:ms= []:=List.eq_nil_of_length_eq_zero (by rw[hr.len,h0])
     subst hms
     intro j u hu
     simp at hu
    ·obtain⟨b,q,hA,_,hc⟩:=hr.spot h0
     injection hA with hA
     subst hA
     exact Rs.cells he hsz hc
   have hbb:(n+m)*bytes≤140737488355328:=Nat.le_trans (Nat.mul_le_mul hsm hby) (by omega)
   have:=Vk (P:=Tryz.prog) w base t t o.type E i0 _ sz bytes ht hi0 hz0 hz1 hz2 hzs hsz v n _ hown ad m c (ms.flatMap enc) (by rw[Vb he,hr.len]) hcells (h1 ms) (by unfold maxLen;omega) hbb hbase rfl
   rw[← List.flatMap_append] at this
   exact this
 obtain⟨v',w',hrun,h2⟩:=key
 obtain⟨A',c',rfl⟩:=Zk h2.own
 unfold Oper.wp execOp
 simp only[ho,resolve,invoke,builtin,Sem.run_bind,Sem.run_pure,Result.andThen_ok,List.map_toArray,List.map_cons,List.map_nil,hs,hx,hrun]
 exact h A' (n+m) c' w' rfl h2
end Go.Proofs.YtfmpecnkkbpdlaaGreatDoor.Bo
namespace Go.Proofs.YtfmpecnkkbpdlaaGreatDoor.Bo
open Go.RowKit
def en (x:Nat):List Value:= [La.nm x]
theorem Ziw (x:Nat):(en x).length=1:=rfl
theorem ZbX (l:List Nat):l.flatMap en=l.map La.nm:=by
 induction l with
 |nil=>rfl
 |cons x l ih=>rw[List.flatMap_cons,ih];rfl
theorem ZkP (l:List Nat): ∀u∈l.flatMap en,u.oneCell'=true:=by
 intro u hu
 rw[ZbX] at hu
 obtain⟨x,_,rfl⟩:=List.mem_map.1 hu
 rfl
theorem Vr {w w':World}{base sz n:Nat}{e:TypeId}{v:Value}{xs:List Value}(h:w.ownsRow base e sz v n xs)(hq: ∀q,v.ownBlock=some q→w'.heap[q]?=w.heap[q]?):w'.ownsRow base e sz v n xs:=by
 refine⟨h.1,?_⟩
 rcases h.2 with hn|⟨g,cap,cur,rfl,hg,hgg,r⟩
 ·exact .inl hn
 ·exact .inr ⟨g,cap,cur,rfl,hg,(hq g rfl).trans hgg,r⟩
theorem ZbY {w:World}{ops:Array Oper}{rest:List Oper}{o:Oper}{a:Act}{Q:Exit→Act→World→Prop}(hgd:o.guard=none)(s x:Operand)
  (ho:o.op= .call {callee:= .builtin .append,args:= #[s,x],argTypes:= #[22,22]})
  (base:Nat) (v:Value) (n:Nat) (vs:List Nat) (hs:a.eval s=v) (hown:w.ownsRow base 72 1 v n (vs.flatMap en)) (B:Nat) (A:Option Addr) (m c:Nat) (ms:List Nat) (hx:a.eval x= .slice A m c) (hr:Rs en 1 w B A m c ms)
  (hsm:n+m≤100000) (hbase:base≤w.heap.size)
  (h: ∀A' k c' w',Hid (k=n+m)→Hid (Appended w w' base 72 1 v (.slice A' k c') k ((vs++ms).flatMap en))→wpList Tryz.prog ops Q rest (a.put o.dst (.slice A' k c')) w'):wpList Tryz.prog ops Q (o::rest) a w:=
 wpList_plain hgd fun _ hK=>VX Ziw (by decide) ZkP Tryz.underlying22 YU rfl (by decide) s x ho base v n vs hs hown B A m c ms hx hr hsm hbase fun A' k c' w' g1 g2=>hK _ _ (h A' k c' w' g1 g2)
structure Jm (w:World)(base:Nat)(v5 v6:Value)(k k':Nat)(js ms:List Nat):Prop where
 j:w.ownsRow base 72 1 v5 k (js.flatMap en)
 m:w.ownsRow base 72 1 v6 k' (ms.flatMap en)
 ap: ∀q,v5.ownBlock=some q→v6.ownBlock≠some q
theorem Jm.keep {w w':World}{base:Nat}{v5 v6:Value}{k k':Nat}{js ms:List Nat}(h:Jm w base v5 v6 k k' js ms)(hb:Below w.heap.size w w'):Jm w' base v5 v6 k k' js ms:=
 ⟨Vr h.j fun q hq=>hb.block q (h.j.lt q hq).2,Vr h.m fun q hq=>hb.block q (h.m.lt q hq).2,h.ap⟩
theorem Jm.one {w w':World}{base:Nat}{v5 v6 v:Value}{k k' n:Nat}{js ms xs:List Nat}(h:Jm w base v5 v6 k k' js ms)(ha:Appended w w' base 72 1 v5 v n (xs.flatMap en)):Jm w' base v v6 n k' xs ms:=
 ⟨ha.own,Vr h.m fun q hq=>ha.grown.block q (h.m.lt q hq).2 fun e=>h.ap q e.symm hq,fun q hq hv=>ha.apart (h.m.lt q hv).2 (fun e=>h.ap q e hv) hq⟩
theorem Jm.two {w w':World}{base:Nat}{v5 v6 v:Value}{k k' n:Nat}{js ms xs:List Nat}(h:Jm w base v5 v6 k k' js ms)(ha:Appended w w' base 72 1 v6 v n (xs.flatMap en)):Jm w' base v5 v k n js xs:=
 ⟨Vr h.j fun q hq=>ha.grown.block q (h.j.lt q hq).2 fun e=>h.ap q hq e.symm,ha.own,fun q hq=>ha.apart (h.j.lt q hq).2 (h.ap q hq)⟩
theorem QM {w:World}{base k:Nat}{A:Option Addr}{c:Nat}{js:List Nat}(h:w.ownsRow base 72 1 (.slice A k c) k (js.flatMap en)):Rd La.nm w w.heap.size A k c js:=by
 rw[ZbX] at h
 exact Rd.of_own h
theorem Zix (w:World)(x:Nat):Rs en 1 (w.alloc (.cells #[.int .u64 (x:Int)] 72)) (w.alloc (.cells #[.int .u64 (x:Int)] 72)).heap.size (some ⟨w.heap.size,0,none⟩) 1 1 [x]:=
 Rs.of_blk Ziw (heap_alloc_new w _) ⟨[],rfl⟩ rfl lR (by unfold maxLen;omega)
theorem ZdA {w:World}{base n:Nat}{A:Option Addr}{c:Nat}{lo:List Nat}(h:w.ownsRow base 72 1 (.slice A n c) n (lo.flatMap en)){i:Nat}(hi:i < lo.length):
  ∃g,A=some ⟨g,0,none⟩∧base≤g∧g < w.heap.size∧w.cell? ⟨g,i,none⟩=some (.int .u64 (lo.getD i 0:Int))∧w.frozen? ⟨g,i,none⟩=false∧
   ∀x:Nat,(w.setCell ⟨g,i,none⟩ (.int .u64 (x:Int))).ownsRow base 72 1 (.slice A n c) n ((lo.set i x).flatMap en):=by
 have hl:=(QM h).len
 rcases h.2 with⟨_,h0⟩|⟨g,cap,cur,hv,hb,hg,hnc,hcm,hcs,htake⟩
 ·omega
 ·injection hv with h1 h2 h3
  subst h1
  subst h3
  rw[ZbX,Nat.mul_one] at htake
  refine⟨g,rfl,hb,Zd hg,?_,Zb hg,fun x=>⟨?_,.inr ⟨g,c,cur.setIfInBounds i (.int .u64 (x:Int)),rfl,hb,Zj hg _,hnc,hcm,by simpa using hcs,?_⟩⟩⟩
  ·rw[Za hg, ← Array.getElem?_toList]
   have:(cur.toList.take n)[i]?=cur.toList[i]?:=by rw[List.getElem?_take,if_pos (by omega)]
   rw[← this,htake,List.getElem?_map,List.getElem?_eq_getElem hi,List.getD_eq_getElem?_getD,List.getElem?_eq_getElem hi]
   rfl
  ·rw[ZbX,List.length_map,List.length_set,Nat.mul_one,hl]
  ·rw[ZbX,Nat.mul_one,Array.toList_setIfInBounds,List.take_set,htake,List.map_set]
   rfl
end Go.Proofs.YtfmpecnkkbpdlaaGreatDoor.Bo
namespace Go.Proofs.YtfmpecnkkbpdlaaGreatDoor.Re
open Go.Proofs.YtfmpecnkkbpdlaaGreatDoor.Bo (Bd bdc ZE V4 tmv wrap_small UX Vs VR)
open La (bt Clos stepW OnTo)
def mayV (n:Nat)(v:Bool)(k:Nat):Bool:= !v||decide (k < n)
def mayB (n:Nat)(b:Bd):Bool:=mayV n b.av b.an && mayV n b.bv b.bn
def ofE (k:Int)(l:List Bd):Int:=if k < 0∨64 < k∨256 < l.length then 3 else if l.all (mayB k.toNat) then 0 else 1
def Edge (l:List Bd)(i j:Nat):Prop:= ∃b∈l,b.av=true∧b.bv=true∧b.an=i∧b.bn=j
def idK (k:Nat):List Nat:=(List.range 64).map fun i=>if i < k then 2 ^ i else 0
theorem U3 (k:Nat):(idK k).length=64:=by simp[idK]
theorem ZjC {k:Nat}:(idK k).set k (2 ^ k)=idK (k+1):=by
 apply List.ext_getElem (by simp[idK])
 intro x h1 h2
 by_cases e:x=k
 ·subst e
  rw[List.getElem_set_self]
  simp[idK]
 ·have:(x < k+1)=(x < k):=propext ⟨fun h=>by omega,fun h=>by omega⟩
  rw[List.getElem_set_ne (by omega)]
  simp[idK,this]
theorem ZkF {n:Nat}(h:n≤64)(i j:Nat):bt (idK n) i j=true↔i < n∧i=j:=by
 by_cases hi:i < 64
 ·rw[La.Qh (by simpa [idK] using hi)]
  by_cases hn:i < n
  ·simp[idK,Nat.testBit_two_pow,hn]
  ·simp[idK,hn]
 ·constructor
  ·intro hb
   exact absurd (by have:=La.Zan hb;simpa [idK] using this) hi
  ·rintro⟨h1,-⟩
   omega
theorem ZfU (n:Nat): ∀x∈idK n,x < 2 ^ 64:=by
 intro x hx
 obtain⟨i,hi,rfl⟩:=List.mem_map.1 hx
 have hi:=List.mem_range.1 hi
 split
 ·exact Nat.pow_lt_pow_right (by decide) hi
 ·exact Nat.two_pow_pos 64
def putB (t:List Nat)(b:Bd):List Nat:=cond (b.av && b.bv) (t.set b.an (t.getD b.an 0|||2 ^ b.bn)) t
def dirN (n:Nat)(l:List Bd):List Nat:=l.foldl putB (idK n)
theorem ZfV {n k:Nat}(h:mayV n true k=true):k < n:=by simpa [mayV] using h
theorem V3 {n:Nat}{b:Bd}(h:mayB n b=true)(ha:b.av=true)(hb:b.bv=true):b.an < n∧b.bn < n:=by
 rw[mayB,Bool.and_eq_true,ha,hb] at h
 exact⟨ZfV h.1,ZfV h.2⟩
theorem ZhD (t:List Nat)(b:Bd):(putB t b).length=t.length:=by
 unfold putB
 cases b.av && b.bv <;> simp
theorem ZjD {n:Nat}(hn:n≤64){t:List Nat}{b:Bd}(hm:mayB n b=true)(ht:t.length=64)(h: ∀x∈t,x < 2 ^ 64): ∀x∈putB t b,x < 2 ^ 64:=by
 unfold putB
 cases ha:b.av with
 |false=>simpa using h
 |true=>
  cases hb:b.bv with
  |false=>simpa using h
  |true=>
   obtain⟨h1,h2⟩:=V3 hm ha hb
   intro x hx
   rcases List.mem_or_eq_of_mem_set hx with hx|rfl
   ·exact h x hx
   ·exact Nat.or_lt_two_pow (h _ (La.getD_mem (by omega))) (Nat.pow_lt_pow_right (by decide) (by omega))
theorem ZjE {n:Nat}(hn:n≤64){t:List Nat}{b:Bd}(hm:mayB n b=true)(ht:t.length=64)(i j:Nat):bt (putB t b) i j=true↔bt t i j=true∨(b.av=true∧b.bv=true∧b.an=i∧b.bn=j):=by
 unfold putB
 cases ha:b.av with
 |false=>simp
 |true=>
  cases hb:b.bv with
  |false=>simp
  |true=>
   obtain⟨h1,h2⟩:=V3 hm ha hb
   rw[Bool.true_and,cond_true,La.Zku (by omega)]
   by_cases e:i=b.an
   ·subst e
    rw[if_pos rfl,Nat.testBit_or,Nat.testBit_two_pow,Bool.or_eq_true,decide_eq_true_iff]
    simp[bt]
   ·have: ¬b.an=i:=fun h=>e h.symm
    rw[if_neg e]
    simp[this]
theorem UQ {n:Nat}(hn:n≤64): ∀(l:List Bd) (t:List Nat),t.length=64→(∀x∈t,x < 2 ^ 64)→(∀b∈l,mayB n b=true)→
  (l.foldl putB t).length=64∧(∀x∈l.foldl putB t,x < 2 ^ 64)∧ ∀i j,bt (l.foldl putB t) i j=true↔bt t i j=true∨Edge l i j
 | [],t,h1,h2,_=>⟨h1,h2,fun i j=>⟨.inl,fun h=>h.elim id fun ⟨b,hb,_⟩=>by cases hb⟩⟩
 |b::l,t,h1,h2,h3=>by
  have hm:=h3 b (List.mem_cons_self ..)
  obtain⟨g1,g2,g3⟩:=UQ hn l (putB t b) (by rw[ZhD];exact h1) (ZjD hn hm h1 h2) fun c hc=>h3 c (List.mem_cons_of_mem _ hc)
  refine⟨g1,g2,fun i j=> ?_⟩
  rw[List.foldl_cons,g3,ZjE hn hm h1,or_assoc]
  refine or_congr Iff.rfl ?_
  unfold Edge
  simp only[List.mem_cons,exists_eq_or_imp]
def thrN (n:Nat)(t:List Nat):Nat→List Nat
 |0=>t
 |k+1=>stepW (thrN n t k) k n
def rchN (n:Nat)(l:List Bd):List Nat:=thrN n (dirN n l) n
section
variable {n:Nat} {l:List Bd} (hn:n≤64) (hm: ∀b∈l,mayB n b=true)
include hn hm
theorem ZaA:(dirN n l).length=64:=(UQ hn l _ (U3 n) (ZfU n) hm).1
theorem ZfW: ∀x∈dirN n l,x < 2 ^ 64:=(UQ hn l _ (U3 n) (ZfU n) hm).2.1
theorem Zdk (i j:Nat):bt (dirN n l) i j=true↔(i < n∧i=j)∨Edge l i j:=by
 rw[dirN,(UQ hn l _ (U3 n) (ZfU n) hm).2.2,ZkF hn]
theorem ZjF {i j:Nat}(h:bt (dirN n l) i j=true):i < n∧j < n:=by
 rcases(Zdk hn hm i j).1 h with⟨h1,rfl⟩|⟨b,hb,h1,h2,rfl,rfl⟩
 ·exact⟨h1,h1⟩
 ·exact V3 (hm b hb) h1 h2
theorem Zcy: ∀k,La.Way 64 (bt (dirN n l)) (thrN n (dirN n l) k)
 |0=>⟨ZaA hn hm,ZfW hn hm,fun _ _ h=>h,fun _ t1 _ i j h=>t1 i j h⟩
 |k+1=>by
  have h:=Zcy k
  refine⟨by rw[thrN,La.ZW];exact h.len,fun x hx=> ?_,fun i j hr=>(La.Zaq _ _ _ _ _).2 (.inl (h.has i j hr)),fun T t1 t2 i j hb=> ?_⟩
  ·obtain⟨y,hy,rfl⟩:=List.mem_map.1 hx
   have hy:=List.mem_range.1 hy
   split
   ·refine Nat.or_lt_two_pow (h.lt _ (La.getD_mem hy)) ?_
    by_cases hk:k < (thrN n (dirN n l) k).length
    ·exact h.lt _ (La.getD_mem hk)
    ·rw[La.Yl hk]
     exact Nat.two_pow_pos 64
   ·exact h.lt _ (La.getD_mem hy)
  ·have hl:=h.least T t1 t2
   rcases(La.Zaq _ _ _ _ _).1 hb with g|⟨_,g1,g2⟩
   ·exact hl _ _ g
   ·exact t2 _ _ _ (hl _ _ g1) (hl _ _ g2)
theorem ZfX {k i j:Nat}(h:bt (thrN n (dirN n l) k) i j=true):i < n∧j < n:=
 (Zcy hn hm k).least (fun i j=>i < n∧j < n) (fun _ _ g=>ZjF hn hm g) (fun _ _ _ g1 g2=>⟨g1.1,g2.2⟩) i j h
theorem Zim: ∀k,OnTo (thrN n (dirN n l) k) k
 |0=>fun m hm=>absurd hm (Nat.not_lt_zero m)
 |k+1=>by
  have h:=Zim k
  have key: ∀x j,bt (thrN n (dirN n l) (k+1)) x j=true↔bt (thrN n (dirN n l) k) x j=true∨(bt (thrN n (dirN n l) k) x k=true∧bt (thrN n (dirN n l) k) k j=true):=fun x j=>by
   rw[thrN,La.Zaq]
   exact⟨fun h=>h.elim .inl fun h=> .inr h.2,fun h=>h.elim .inl fun h=> .inr ⟨(ZfX hn hm h.1).1,h⟩⟩
  intro m hmk i j h1 h2
  rw[key] at h1 h2 ⊢
  by_cases e:m=k
  ·subst e
   exact .inr ⟨h1.elim id (·.1),h2.elim id (·.2)⟩
  ·have hm':m < k:=by omega
   rcases h1 with h1|⟨h1,h1'⟩ <;> rcases h2 with h2|⟨h2,h2'⟩
   ·exact .inl (h m hm' i j h1 h2)
   ·exact .inr ⟨h m hm' i k h1 h2,h2'⟩
   ·exact .inr ⟨h1,h m hm' k j h1' h2⟩
   ·exact .inr ⟨h1,h2'⟩
theorem KH:Clos (bt (dirN n l)) (bt (rchN n l)):=
 (Zcy hn hm n).clos fun i j k h1 h2=>Zim hn hm n j (ZfX hn hm h2).1 i k h1 h2
theorem ZhE {i:Nat}(h:i < n):bt (rchN n l) i i=true:=(KH hn hm).has _ _ ((Zdk hn hm i i).2 (.inl ⟨h,rfl⟩))
theorem ZhF {i j:Nat}(h:Edge l i j):bt (rchN n l) i j=true:=(KH hn hm).has _ _ ((Zdk hn hm i j).2 (.inr h))
theorem ZkG {i j k:Nat}(h1:bt (rchN n l) i j=true)(h2:bt (rchN n l) j k=true):bt (rchN n l) i k=true:=(KH hn hm).on i j k h1 h2
theorem ZfY {T:Nat→Nat→Prop}(t0: ∀i,i < n→T i i)(t1: ∀i j,Edge l i j→T i j)(t2: ∀i j k,T i j→T j k→T i k){i j:Nat}(h:bt (rchN n l) i j=true):T i j:=by
 refine(KH hn hm).least T (fun i j g=> ?_) t2 i j h
 rcases(Zdk hn hm i j).1 g with⟨h1,rfl⟩|h1
 ·exact t0 _ h1
 ·exact t1 _ _ h1
end
theorem Zin {q:Nat}{l:List Bd}(h1:q≤64)(h2:l.length≤256)(h3: ∀b∈l,mayB q b=true):ofE (q:Int) l=0:=by
 unfold ofE
 rw[if_neg (by omega),Int.toNat_natCast,if_pos (List.all_eq_true.2 h3)]
end Go.Proofs.YtfmpecnkkbpdlaaGreatDoor.Re
namespace Go.Proofs.YtfmpecnkkbpdlaaGreatDoor
open Go.RowKit
structure Sen where
 p:List Sp
 lo:List Nat
 hi:List Nat
 be:List (List Bool)
def Sen.none:Sen:=⟨[],[],[],[]⟩
def tmL (u:List Nat)(p:Sp):Nat:=Bo.vl u p.v p.z.toNat
def alw (S:Bo.Sr)(lo hi:List Nat)(rc:Nat→Nat→Bool)(p q:Sp):Bool:=(p.v && (q.v && rc p.z.toNat q.z.toNat))||S.below (tmL hi p) (tmL lo q)
def belS (S:Bo.Sr)(lo hi:List Nat)(rc:Nat→Nat→Bool)(p q:Sp):Bool:= !decide (p.s=0) && (!decide (q.s=1) && alw S lo hi rc p q)
def lowS (S:Bo.Sr)(lo:List Nat)(p:Sp):Nat:=if p.s=1 then S.bot else tmL lo p
def ZR (S:Bo.Sr)(hi:List Nat)(p:Sp):Nat:=if p.s=0 then S.top else tmL hi p
def senS (S:Bo.Sr)(lo hi:List Nat)(rc:Nat→Nat→Bool)(l:List Sp):Sen:=
 ⟨l,l.map (lowS S lo),l.map (ZR S hi),l.map fun p=>l.map (belS S lo hi rc p)⟩
def QN (a b:Sp):Bool:=decide (a.n=b.n) && (decide (a.p=b.p) && decide (a.s=b.s))
def eqF {α:Type}(f:α→α→Bool):List α→List α→Bool
 | [],[]=>true
 |x::l,y::m=>f x y && eqF f l m
 |_,_=>false
def U5 (a b:List Bool):Bool:=(a.zip b).all fun x=> !x.1||x.2
def Y0 (z:Sen):Bool:=decide (z.lo.length=z.p.length) && (decide (z.hi.length=z.p.length) && (decide (z.be.length=z.p.length) && (!z.p.any (fun p=>decide (2 < p.s)) && !z.be.any (fun r=> !decide (r.length=z.p.length)))))
def QO (S:Bo.Sr)(a b:List Nat):Bool:=(a.zip b).all fun x=>S.below x.1 x.2
def ZkQ (S:Bo.Sr)(a b:Sen):Bool:=
 eqF QN a.p b.p && (Y0 a && (Y0 b && (QO S a.lo b.lo && (QO S b.hi a.hi && eqF U5 a.be b.be))))
theorem YM {α:Type}{f:α→α→Bool}: ∀{l m:List α},eqF f l m=true↔l.length=m.length∧ ∀i (h:i < l.length) (h':i < m.length),f l[i] m[i]=true
 | [],[]=>by simp[eqF]
 | [],_::_=>by simp[eqF]
 |_::_,[]=>by simp[eqF]
 |x::l,y::m=>by
  rw[eqF,Bool.and_eq_true,YM (l:=l) (m:=m)]
  constructor
  ·rintro⟨h0,h1,h2⟩
   refine⟨by simp[h1],fun i h h'=> ?_⟩
   cases i with
   |zero=>exact h0
   |succ i=>exact h2 i (by simpa using h) (by simpa using h')
  ·rintro⟨h1,h2⟩
   exact⟨h2 0 (by simp) (by simp),by simpa using h1,fun i h h'=>h2 (i+1) (by simpa using h) (by simpa using h')⟩
theorem ZgD {α β:Type}{f:α×β→Bool}{l:List α}{m:List β}(e:l.length=m.length):(l.zip m).all f=true↔ ∀i (h:i < l.length) (h':i < m.length),f (l[i],m[i])=true:=by
 rw[List.all_eq_true]
 constructor
 ·intro h i h1 h2
  have:(l.zip m)[i]'(by simp;omega)=(l[i],m[i]):=by simp
  exact this▸h _ (List.getElem_mem _)
 ·intro h x hx
  obtain⟨i,hi,rfl⟩:=List.mem_iff_getElem.1 hx
  simp only[List.length_zip] at hi
  have:(l.zip m)[i]'(by simp;omega)=(l[i]'(by omega),m[i]'(by omega)):=by simp
  rw[this]
  exact h i (by omega) (by omega)
theorem Zb0 {z:Sen}:Y0 z=true↔z.lo.length=z.p.length∧z.hi.length=z.p.length∧z.be.length=z.p.length∧(∀p∈z.p,p.s≤2)∧ ∀r∈z.be,r.length=z.p.length:=by
 unfold Y0
 simp only[Bool.and_eq_true,decide_eq_true_eq,Bool.not_eq_true',List.any_eq_false,decide_eq_false_iff_not,Nat.not_lt,Decidable.not_not]
structure Got (S:Bo.Sr)(q:Nat)(l:List Bo.Bd)(lo hi:List Nat):Prop where
 ok:S.Ok
 q64:q≤64
 may: ∀b∈l,Bo.mayB S q b=true
 low:Bo.Y7 S q l lo
 high:Bo.Y7 S.turn q (l.map Bo.Bd.turn) hi
 hold:Bo.VK S lo l=true
def rcB (q:Nat)(l:List Bo.Bd)(i j:Nat):Bool:=La.bt (Re.rchN q l) i j
theorem Ziy {S:Bo.Sr}{q:Nat}{b:Bo.Bd}(h:Bo.mayB S q b=true):Re.mayB q b=true:=by
 unfold Bo.mayB Bo.mayT at h
 unfold Re.mayB Re.mayV
 rw[Bool.and_eq_true] at h ⊢
 obtain⟨h1,h2⟩:=h
 constructor
 ·cases hv:b.av with
  |false=>rfl
  |true=>rw[hv] at h1;simpa using h1
 ·cases hv:b.bv with
  |false=>rfl
  |true=>rw[hv] at h2;simpa using h2
section
variable {S:Bo.Sr} {q:Nat} {l:List Bo.Bd} {lo hi:List Nat} (h:Got S q l lo hi)
include h
theorem Got.has_lo {p:Sp}(hp:may1 S q p=true):S.has (tmL lo p)=true:=by
 unfold may1 Bo.mayT at hp
 unfold tmL Bo.vl
 rw[Int.toNat_natCast] at hp
 cases hv:p.v with
 |false=>rw[hv] at hp;exact hp
 |true=>
  rw[hv] at hp
  exact h.low.has.2 _ (of_decide_eq_true hp)
theorem Got.has_hi {p:Sp}(hp:may1 S q p=true):S.has (tmL hi p)=true:=by
 unfold may1 Bo.mayT at hp
 unfold tmL Bo.vl
 rw[Int.toNat_natCast] at hp
 cases hv:p.v with
 |false=>rw[hv] at hp;exact hp
 |true=>
  rw[hv] at hp
  exact h.high.has.2 _ (of_decide_eq_true hp)
theorem Got.ends {p:Sp}(hp:may1 S q p=true):S.has S.bot=true∧S.has S.top=true:=by
 have:=h.has_lo hp
 exact⟨(h.ok.sub _ _ (h.ok.botl _ this)).1,(h.ok.sub _ _ (h.ok.topl _ this)).2⟩
theorem Got.lowH {p:Sp}(hp:may1 S q p=true):S.has (lowS S lo p)=true:=by
 unfold lowS
 split
 ·exact(h.ends hp).1
 ·exact h.has_lo hp
theorem Got.highH {p:Sp}(hp:may1 S q p=true):S.has (ZR S hi p)=true:=by
 unfold ZR
 split
 ·exact(h.ends hp).2
 ·exact h.has_hi hp
end
end Go.Proofs.YtfmpecnkkbpdlaaGreatDoor
