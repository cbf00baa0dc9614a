import Derived.Below
import Derived.Lib.Hide
import Derived.Deep.Draws
import Derived.Laws.OwnMore
import Derived.Laws.Slices
import Derived.Laws.NewBlocks
import Derived.Deep.RegionHeld3
import Derived.OrdersIn
import Derived.RangeFuncCalls
import Derived.OwnWalkIn
import Derived.RangeFuncNested
import Derived.RangeFuncBound
import Derived.RangeFuncLeaves
import Derived.Shelf.Abstract
import Derived.WalkKit
import Derived.TacticsInMore
import Derived.LoopNIn
import Derived.LoopIn
namespace Go.Proofs.YtmejhedegmjboaaGreat
open Go Go.RowKit
theorem sA {α:Type _}(l:List α)(i:Nat)(a:α):l.toArray.setIfInBounds i a=(l.set i a).toArray:=List.setIfInBounds_toArray l i a
theorem sB {α:Type _}{x:α}{xs:List α}{a:α}:(x::xs).set 0 a=a::xs:=rfl
theorem sC {α:Type _}{x:α}{xs:List α}{i:Nat}{a:α}:(x::xs).set (i+1) a=x::xs.set i a:=rfl
theorem sE {α:Type _}{a:α}{l:List α}:(a::l)[0]?=some a:=rfl
theorem sD {α:Type _}{a:α}{i:Nat}{l:List α}:(a::l)[i+1]?=l[i]?:=rfl
theorem Hd {p:Prop}(h:p):Hid p:=Lib.hid h
theorem lR {n:Nat}:n≤n:=Nat.le_refl n
theorem bA {w:World}{o:Obj}:Below w.heap.size w (w.alloc o):=(Below.refl _ _).alloc (Nat.le_refl _) _
end Go.Proofs.YtmejhedegmjboaaGreat
namespace Go.Proofs.YtmejhedegmjboaaGreat.PaM
structure One (lo hi:Nat→Nat)(B:Nat→Nat→Bool)(le:Nat→Nat→Prop)(u d:Nat):Prop where
 at':B d u=true
 lohi:le (lo u) (hi d)
 on: ∀k m,B k u=true→B d m=true→B k m=true
 low: ∀m,B d m=true→le (lo u) (lo m)
 high: ∀k,B k u=true→le (hi k) (hi d)
section
variable {lo hi:Nat→Nat} {B:Nat→Nat→Bool} {le:Nat→Nat→Prop}
def ZQ (hi:Nat→Nat)(B:Nat→Nat→Bool)(d b:Nat):Prop:=(∀k,B d k=B b k)∧hi d=hi b
def Z5 (lo:Nat→Nat)(B:Nat→Nat→Bool)(u b:Nat):Prop:=(∀k,B k u=B k b)∧lo u=lo b
end
end Go.Proofs.YtmejhedegmjboaaGreat.PaM
namespace Go.Proofs.YtmejhedegmjboaaGreat
open Go.RowKit
structure Kept (D:Nat→Prop)(w w':World):Prop where
 os:w'.os=w.os
 tape:w'.tape=w.tape
 output:w'.output=w.output
 size:w.heap.size≤w'.heap.size
 block: ∀b,b < w.heap.size→ ¬D b→w'.heap[b]?=w.heap[b]?
section
variable {D D':Nat→Prop} {a w w':World}
theorem Kept.refl (D:Nat→Prop)(w:World):Kept D w w:=⟨rfl,rfl,rfl,Nat.le_refl _,fun _ _ _=>rfl⟩
theorem Kept.mono (h:Kept D a w)(hD: ∀b,D b→D' b):Kept D' a w:=⟨h.os,h.tape,h.output,h.size,fun b hb hn=>h.block b hb fun hd=>hn (hD b hd)⟩
theorem Kept.trans (h:Kept D a w)(k:Kept D w w'):Kept D a w':=
 ⟨k.os.trans h.os,k.tape.trans h.tape,k.output.trans h.output,Nat.le_trans h.size k.size,fun b hb hn=>(k.block b (Nat.lt_of_lt_of_le hb h.size) hn).trans (h.block b hb hn)⟩
theorem Kept.drew (h:Kept D a w):Kept D a w.drew:=⟨h.os,h.tape,h.output,h.size,h.block⟩
theorem Kept.alloc (h:Kept D a w)(o:Obj):Kept D a (w.alloc o):=
 ⟨h.os,h.tape,h.output,Nat.le_trans h.size (by simp),fun b hb hn=>(Below.heap_alloc w o b (Nat.lt_of_lt_of_le hb h.size)).trans (h.block b hb hn)⟩
theorem Kept.setCell (h:Kept D a w){p:Addr}(hp:D p.block∨a.heap.size≤p.block)(u:Value):Kept D a (w.setCell p u):=
 ⟨h.os,h.tape,h.output,by simpa [World.setCell] using h.size,fun b hb hn=>(Below.heap_setCell w p u b (by
 rintro rfl
 rcases hp with hp|hp
 ·exact hn hp
 ·omega)).trans (h.block b hb hn)⟩
theorem Kept.cell (h:Kept D w w'){p:Addr}(hp:p.block < w.heap.size)(hn: ¬D p.block):w'.cell? p=w.cell? p:=World.cell?_of_block (h.block p.block hp hn)
theorem Kept.below {B:Nat}(h:Kept D w w')(hB:B≤w.heap.size)(hD: ∀b,D b→B≤b):Below B w w':=
 ⟨h.os,h.tape,h.output,h.size,fun b hb=>h.block b (Nat.lt_of_lt_of_le hb hB) fun hd=>by have:=hD b hd;omega⟩
theorem Kept.of_below (h:Below w.heap.size w w'):Kept D w w':=⟨h.os,h.tape,h.output,h.size,fun b hb _=>h.block b hb⟩
end
theorem Zb {w:World}{g i:Nat}{cs:Array Value}{t:TypeId}(h:w.heap[g]?=some (.cells cs t (0,0))):w.cell? ⟨g,i,none⟩=cs[i]?:=cell_of_row w g i cs t (0,0) h
theorem Zc {w:World}{g i:Nat}{cs:Array Value}{t:TypeId}(h:w.heap[g]?=some (.cells cs t (0,0))):w.frozen? ⟨g,i,none⟩=false:=by
 simp[World.frozen?,h]
theorem Zm {w:World}{g i:Nat}{cs:Array Value}{t:TypeId}(h:w.heap[g]?=some (.cells cs t (0,0)))(u:Value):(w.setCell ⟨g,i,none⟩ u).heap[g]?=some (.cells (cs.setIfInBounds i u) t (0,0)):=by
 simp[World.setCell,Array.getElem?_modify,h]
theorem Zh {w:World}{g:Nat}{o:Obj}(h:w.heap[g]?=some o):g < w.heap.size:=(Array.getElem?_eq_some_iff.1 h).1
end Go.Proofs.YtmejhedegmjboaaGreat
namespace Go.Proofs.YtmejhedegmjboaaGreat
open Go.RowKit
structure Rd {α:Type}(enc:α→Value)(w:World)(B:Nat)(A:Option Addr)(n c:Nat)(l:List α):Prop where
 len:l.length=n
 cap:n≤c
 top:c≤maxLen
 none0:A=none→c=0
 spot:0 < n→ ∃b o,A=some ⟨b,o,none⟩∧b < B∧ ∀j (h:j < l.length),w.cell? ⟨b,o+j,none⟩=some (enc l[j])
structure Fresh {α:Type}(enc:α→Value)(E:TypeId)(w w':World)(A:Option Addr)(n c:Nat)(l:List α):Prop where
 own:w'.ownsRow w.heap.size E 1 (.slice A n c) n (l.map enc)
 bel:Below w.heap.size w w'
section
variable {α:Type} {enc:α→Value} {w w':World} {B B':Nat} {A:Option Addr} {n c:Nat} {l:List α}
theorem Rd.nil (w:World)(B:Nat):Rd enc w B none 0 0 []:=⟨rfl,Nat.le_refl _,Nat.zero_le _,fun _=>rfl,fun h=>absurd h (by omega)⟩
theorem Rd.keep (h:Rd enc w B A n c l)(hk: ∀k,k < B→w'.heap[k]?=w.heap[k]?):Rd enc w' B A n c l:=
 ⟨h.len,h.cap,h.top,h.none0,fun hn=>by
  obtain⟨b,o,e,hb,hc⟩:=h.spot hn
  exact⟨b,o,e,hb,fun j hj=>(World.cell?_of_block (w:=w) (w':=w') (a:=⟨b,o+j,none⟩) (hk b hb)).trans (hc j hj)⟩⟩
theorem Rd.below (h:Rd enc w B A n c l)(hb:Below B w w'):Rd enc w' B A n c l:=h.keep hb.block
theorem Rd.mono (h:Rd enc w B A n c l)(hB:B≤B'):Rd enc w B' A n c l:=
 ⟨h.len,h.cap,h.top,h.none0,fun hn=>by
  obtain⟨b,o,e,hb,hc⟩:=h.spot hn
  exact⟨b,o,e,by omega,hc⟩⟩
theorem Rd.at_size (h:Rd enc w B A n c l)(hB:B≤w.heap.size)(hb:Below w.heap.size w w'):Rd enc w' w'.heap.size A n c l:=
 ((h.mono hB).below hb).mono hb.size
theorem ZfR {E:TypeId}{base:Nat}{v:Value}(h:w.ownsRow base E 1 v n (l.map enc)):l.length=n:=by
 have:=h.1
 rw[List.length_map] at this
 omega
theorem ZhZ {E:TypeId}{base:Nat}{v:Value}{xs:List Value}(h:w.ownsRow base E 1 v n xs): ∃A c,v= .slice A n c:=by
 rcases h.2 with⟨rfl,rfl⟩|⟨g,cap,cur,rfl,_⟩
 ·exact⟨none,0,rfl⟩
 ·exact⟨_,_,rfl⟩
theorem Rd.of_own {E:TypeId}{base:Nat}(h:w.ownsRow base E 1 (.slice A n c) n (l.map enc)):Rd enc w w.heap.size A n c l:=by
 have hl:=ZfR h
 rcases h.2 with⟨hv,rfl⟩|⟨g,cap,cur,hv,hb,hg,hnc,hcm,hcs,htake⟩
 ·injection hv with h1 h2 h3
  subst h3
  exact⟨hl,Nat.le_refl _,Nat.zero_le _,fun _=>rfl,fun h=>absurd h (by omega)⟩
 ·(
 injection hv with h1 h2 h3
 subst h1
 subst h3
 refine⟨hl,hnc,hcm,(fun h=>by cases h),fun _=>⟨g,0,rfl,(Array.getElem?_eq_some_iff.1 hg).1,fun j hj=> ?_⟩⟩
 have:=h.cells (g:=g) rfl j (enc l[j]) (by simp[hj])
 simpa [Addr.add_lit] using this)
theorem Fresh.rd {E:TypeId}(h:Fresh enc E w w' A n c l):Rd enc w' w'.heap.size A n c l:=Rd.of_own h.own
theorem Fresh.len {E:TypeId}(h:Fresh enc E w w' A n c l):l.length=n:=ZfR h.own
theorem Rd.cells {b o:Nat}(h: ∀j (h:j < l.length),w.cell? ⟨b,o+j,none⟩=some (enc l[j])):
  ∀j u,(l.map enc)[j]?=some u→w.cell? ((⟨b,o,none⟩:Addr).add j)=some u:=by
 intro j u hu
 rw[List.getElem?_map] at hu
 rcases Nat.lt_or_ge j l.length with hj|hj
 ·rw[List.getElem?_eq_getElem hj] at hu
  injection hu with hu
  rw[Addr.add_lit, ← hu]
  exact h j hj
 ·rw[List.getElem?_eq_none hj] at hu
  cases hu
theorem Zb5 (h1: ∀x,(enc x).oneCell'=true)(l:List α): ∀u∈l.map enc,u.oneCell'=true:=by
 intro u hu
 obtain⟨x,_,rfl⟩:=List.mem_map.1 hu
 exact h1 x
theorem Rd.new (w:World)(cs:Array Value)(e:TypeId)(n:Nat)(l:List α)(hcs:cs.toList=l.map enc)(hn:l.length=n)(hm:n≤maxLen):
  Rd enc (w.alloc (.cells cs e)) (w.alloc (.cells cs e)).heap.size (some ⟨w.heap.size,0,none⟩) n n l:=by
 refine⟨hn,Nat.le_refl _,hm,(fun h=>by cases h),fun _=>⟨w.heap.size,0,rfl,by simp,fun j hj=> ?_⟩⟩
 rw[Nat.zero_add,cell_of_row _ w.heap.size j cs e (0,0) (heap_alloc_new w _), ← Array.getElem?_toList,hcs]
 simp[hj]
end
theorem Ko {α:Type}{enc:α→Value}{P:Program}(w:World){o:Oper}{a:Act}{K:Act→World→Prop}{Q:Exit→Act→World→Prop}(s x:Operand)(t:TypeId)
  (ho:o.op= .call {callee:= .builtin .append,args:= #[s,x],argTypes:= #[t,t]})
  (base:Nat) (e:TypeId) (i:TypeInfo) (z:Value) (by1:Nat) (ht:P.underlying t=some (.slice e)) (hi:P.info? e=some i) (hz:i.zero=some z) (hsize:i.size=1) (hby:i.bytes=by1) (hzs:z.cells.size=1) (h1: ∀x,(enc x).oneCell'=true)
  (v:Value) (n:Nat) (bs:List α) (hs:a.eval s=v) (hown:w.ownsRow base e 1 v n (bs.map enc))
  (B:Nat) (A:Option Addr) (m c:Nat) (ms:List α) (hx:a.eval x= .slice A m c) (hr:Rd enc w B A m c ms) (hmax:n+m≤maxLen) (hb:(n+m)*by1≤140737488355328) (hbase:base≤w.heap.size)
  (h: ∀A' k c' w',Hid (k=n+m)→w'.ownsRow base e 1 (.slice A' k c') k ((bs++ms).map enc)→w.grownBy w' v.ownBlock→(∀g,(Value.slice A' k c').ownBlock=some g→base≤g)→K (a.put o.dst (.slice A' k c')) w'):
  o.wp P a w K Q:=by
 have key: ∃v' w',(Builtin.append_ #[t,t] o.type #[v,.slice A m c]).run P w= .ok v' w'∧w'.ownsRow base e 1 v' (n+m) ((bs++ms).map enc)∧w.grownBy w' v.ownBlock:=by(
 rcases A with _|ad
 ·(
 have hc0:=hr.none0 rfl
 have hm0:m=0:=by have:=hr.cap;omega
 subst hc0
 subst hm0
 have hms:ms= []:=List.eq_nil_of_length_eq_zero hr.len
 subst hms
 refine⟨v,w,run_append_owned_none (P:=P) w base t o.type e i 1 ht hi v n _ hown,?_,⟨rfl,rfl,rfl,Nat.le_refl _,fun _ _ _=>rfl⟩⟩
 simpa using hown)
 ·have hcells: ∀j u,(ms.map enc)[j]?=some u→w.cell? (ad.add j)=some u:=by
   rcases Nat.eq_zero_or_pos m with h0|h0
   ·(
 have hms:ms= []:=List.eq_nil_of_length_eq_zero (by rw[hr.len,h0])
 subst hms
 intro j u hu
 simp at hu)
   ·(
 obtain⟨b,q,hA,_,hc⟩:=hr.spot h0
 injection hA with hA
 subst hA
 exact Rd.cells hc)
  obtain⟨v',w',hrun,h2,h3,_⟩:=run_append_own (P:=P) w base t o.type e i z 1 by1 ht hi hz hsize hby hzs (by decide) v n _ hown ad m c _ (by rw[List.length_map,hr.len,Nat.mul_one]) hcells (Zb5 h1 ms) hmax hb hbase
  exact⟨v',w',hrun,by rw[List.map_append];exact h2,h3⟩)
 obtain⟨v',w',hrun,h2,h3⟩:=key
 obtain⟨A',c',rfl⟩:=ZhZ h2
 unfold Oper.wp execOp
 simp only[ho,resolve,invoke,builtin,Sem.run_bind,Sem.run_pure,Result.andThen_ok,List.map_toArray,List.map_cons,List.map_nil,hs,hx,hrun]
 exact h A' (n+m) c' w' rfl h2 h3 fun g hg=>(h2.lt g hg).1
theorem ZA {α:Type}{enc:α→Value}{P:Program}(w:World){ops:Array Oper}{rest:List Oper}{o:Oper}{a:Act}{Q:Exit→Act→World→Prop}(hgd:o.guard=none)(s x:Operand)(t:TypeId)
  (ho:o.op= .call {callee:= .builtin .append,args:= #[s,x],argTypes:= #[t,t]})
  (base:Nat) (e:TypeId) (i:TypeInfo) (z:Value) (by1:Nat) (ht:P.underlying t=some (.slice e)) (hi:P.info? e=some i) (hz:i.zero=some z) (hsize:i.size=1) (hby:i.bytes=by1) (hzs:z.cells.size=1) (h1: ∀x,(enc x).oneCell'=true)
  (v:Value) (n:Nat) (bs:List α) (hs:a.eval s=v) (hown:w.ownsRow base e 1 v n (bs.map enc))
  (B:Nat) (A:Option Addr) (m c:Nat) (ms:List α) (hx:a.eval x= .slice A m c) (hr:Rd enc w B A m c ms) (hmax:n+m≤maxLen) (hb:(n+m)*by1≤140737488355328) (hbase:base≤w.heap.size)
  (h: ∀A' k c' w',Hid (k=n+m)→w'.ownsRow base e 1 (.slice A' k c') k ((bs++ms).map enc)→w.grownBy w' v.ownBlock→(∀g,(Value.slice A' k c').ownBlock=some g→base≤g)→wpList P ops Q rest (a.put o.dst (.slice A' k c')) w'):
  wpList P ops Q (o::rest) a w:=
 wpList_plain hgd fun _ hK=>Ko w s x t ho base e i z by1 ht hi hz hsize hby hzs h1 v n bs hs hown B A m c ms hx hr hmax hb hbase fun A' k c' w' g1 g2 g3 g4=>hK _ _ (h A' k c' w' g1 g2 g3 g4)
def cutAt (A:Option Addr)(lo c:Nat):Option Addr:=if c=lo then A else A.map (·.add lo)
section
variable {α:Type} {enc:α→Value}
theorem Rd.cut {w:World}{B:Nat}{A:Option Addr}{n c:Nat}{l:List α}(h:Rd enc w B A n c l)(lo hi:Nat)(h1:lo≤hi)(h2:hi≤n):Rd enc w B (cutAt A lo c) (hi - lo) (c - lo) ((l.drop lo).take (hi - lo)):=by
 have hc:=h.cap
 have ht:=h.top
 have hl:=h.len
 refine⟨by rw[List.length_take,List.length_drop];omega,by omega,by omega,fun hn=> ?_,fun hn=> ?_⟩
 ·(
 unfold cutAt at hn
 split at hn
 ·omega
 ·rcases A with _|ad
  ·have:=h.none0 rfl
   omega
  ·cases hn)
 ·(
 obtain⟨b,o,rfl,hb,hcell⟩:=h.spot (by omega)
 have hne: ¬c=lo:=by omega
 refine⟨b,o+lo,by simp[cutAt,hne,Addr.add_lit],hb,fun j hj=> ?_⟩
 rw[List.length_take,List.length_drop] at hj
 rw[Nat.add_assoc,hcell (lo+j) (by omega)]
 simp)
variable {P:Program} {w:World} {B:Nat} {A:Option Addr} {n c:Nat} {l:List α} (t e:TypeId) (ht:P.underlying t=some (.slice e)) (hz: ∀w,(Go.sizeOf e).run P w= .ok 1 w)
include ht hz
theorem Zea (h:Rd enc w B A n c l)(hi:Int)(h0:0≤hi)(h1:hi≤(n:Int)):
  ∃A' n' c',(∀W,(Instr.slice t (.slice A n c) none (some (.int .i64 hi)) none).run P W= .ok (.slice A' n' c') W)∧Rd enc w B A' n' c' (l.take hi.toNat):=by
 have hc:=h.cap
 have hcut:=h.cut 0 hi.toNat (by omega) (by omega)
 rw[List.drop_zero,Nat.sub_zero] at hcut
 refine⟨_,_,_,fun W=> ?_,hcut⟩
 have he:P.elem t=e:=by simp[Program.elem,ht]
 have ht':P.underlying t=some (.slice (P.elem t)):=by rw[he];exact ht
 rw[run_slice_h W t _ _ _ ht' .i64 _ (by omega) (by omega),he,hz]
 simp[Result.andThen,sliced,cutAt]
end
theorem Zh0 {w w':World}{base n:Nat}{E:TypeId}{v:Value}{xs:List Value}(h:w.ownsRow base E 1 v n xs)(hb:Below w.heap.size w w'):w'.ownsRow base E 1 v n xs:=by
 refine⟨h.1,?_⟩
 rcases h.2 with hn|⟨g,cap,cur,hv,hg,hgg,r⟩
 ·exact .inl hn
 ·exact .inr ⟨g,cap,cur,hv,hg,(hb.block g (Array.getElem?_eq_some_iff.1 hgg).1).trans hgg,r⟩
end Go.Proofs.YtmejhedegmjboaaGreat
namespace Go.Proofs.YtmejhedegmjboaaGreat
open Go
def steps (l:List Oper):List Nat→List (Nat×Oper)
 | []=> []
 |i::r=>match l[i]? with
  |some o=>(i,o)::steps l r
  |none=>steps l r
theorem UM (l:List Oper): ∀(r:List Nat) (x:Nat×Oper),x∈steps l r→l[x.1]?=some x.2
 | [],x,h=>by simp[steps] at h
 |i::r,x,h=>by(
 unfold steps at h
 split at h
 ·rename_i o ho
  rcases List.mem_cons.1 h with rfl|h
  ·exact ho
  ·exact UM l r x h
 ·exact UM l r x h)
section
variable (P:Program) (ops:Array Oper) (Q:Exit→Act→World→Prop) (S:World→Prop) (stop:Nat) (hards:List Nat)
def Ur:Nat→Array Bool→Act→World→Prop
 |0,listed,a,w=>Region.ready .any ops listed= []∧Q .normal a w
 |fuel+1,listed,a,w=>
  (Region.ready .any ops listed= []→Q .normal a w)∧
  ∀i∈Region.ready .any ops listed,wpOp P ops Q i (fun a' w'=>(i≠stop→S w')∧Ur fuel (listed.setIfInBounds i true) a' w') a w
def Uu:List (Nat×Oper)→Act→World→Prop
 | [],a,w=>Q .normal a w
 |(i,o)::r,a,w=>(
 (Region.wanted o (yielded ops a.tmps)=true∧hards.contains i=false∧ ∃v,(∀w',S w'→(execOp a.eval o).run P w'= .ok (.value v) w')∧Uu r (a.put o.dst v) w)∨
 (Region.wanted o (yielded ops a.tmps)=false∧Uu r (a.put o.dst undef) w)∨
 (hards.contains i=true∧Region.wanted o (yielded ops a.tmps)=true∧Oper.wp P o a w (fun a' w'=>(i≠stop→S w')∧Uu r a' w') Q))
def waits (i:Nat):Bool:=match ops[stop]? with
 |some o=>o.after.any fun e=>Region.binds .any e && e.on==i
 |none=>true
def Zay:List (Nat×Oper)→Array Bool→Bool
 | [],listed=>(Region.ready .any ops listed).isEmpty
 |x::r,listed=>
  (Region.ready .any ops listed).contains x.1 && (if hards.contains x.1 then Region.ready .any ops listed== [x.1] && (x.1 !=stop||r.isEmpty) else Region.free .any ops listed x.1 && waits ops stop x.1 && x.1 !=stop) && Zay r (listed.setIfInBounds x.1 true)
end
section
variable {P:Program} {ops:Array Oper} {Q:Exit→Act→World→Prop} {S:World→Prop} {stop:Nat} {hards:List Nat}
theorem KP: ∀(fuel:Nat) (listed:Array Bool) (a:Act) (w:World),Ur P ops Q S stop fuel listed a w→wpAny P .any ops Q fuel listed a w
 |0,_,_,_,h=>h
 |fuel+1,_,_,_,h=>⟨h.1,fun i hi=>wpOp_mono (fun a' w' h'=>KP fuel _ a' w' h'.2) (h.2 i hi)⟩
theorem RJ {i:Nat}{oi:Oper}{v:Value}(hi:ops[i]?=some oi)(hsel: ∀(j:Nat) (o:Oper) cs b,ops[j]?=some o→o.op≠ .select cs b)
  (hQ: ∀c a w,Q (.panic c) (a.put oi.dst v) w→Q (.panic c) a w) (his:i≠stop) (hwait: ∀o,ops[stop]?=some o→ ∃e∈o.after,Region.binds .any e=true∧e.on=i):
  ∀(fuel:Nat) (listed:Array Bool) (a:Act) (w:World),
   (∀j oj,ops[j]?=some oj→j≠i→listed.getD j true=false→(∀e∈oj.after,Region.binds .any e=true→e.on≠i)→oi.apart ops oj=true)→
   i∈Region.ready .any ops listed→YieldsIf P ops S oi v a→S w→
   Ur P ops Q S stop fuel (listed.setIfInBounds i true) (a.put oi.dst v) w→Ur P ops Q S stop (fuel+1) listed a w:=by
 intro fuel
 induction fuel with
 |zero=>(
 intro listed a w _ hr hy hS H
 refine⟨fun h=>(by rw[h] at hr;cases hr),fun j hj=> ?_⟩
 by_cases hji:j=i
 ·subst hji
  exact hy.wpOp hi hS ⟨fun _=>hS,H⟩
 ·have:=ready_mono hj hji
  rw[H.1] at this
  cases this)
 |succ fuel ih=>(
 intro listed a w hfree hr hy hS H
 refine⟨fun h=>(by rw[h] at hr;cases hr),fun j hj=> ?_⟩
 by_cases hji:j=i
 ·subst hji
  exact hy.wpOp hi hS ⟨fun _=>hS,H⟩
 ·(
 have h1:=H.2 j (ready_mono hj hji)
 obtain⟨hjun,oj,hoj,hall⟩:=mem_ready.1 hj
 have hnot: ∀e∈oj.after,Region.binds .any e=true→e.on≠i:=fun e he hb heq=>by(
 have h1:=hall e he hb
 have h0:=(mem_ready.1 hr).1
 rw[heq] at h1
 rcases Nat.lt_or_ge i listed.size with h'|h'
 ·simp[h'] at h0 h1
  rw[h0] at h1
  cases h1
 ·simp[Array.getElem?_eq_none h'] at h1)
 have hjs:j≠stop:=by(
 rintro rfl
 obtain⟨e,he,hb,heq⟩:=hwait oj hoj
 exact hnot e he hb heq)
 have h2:=wpOp_putIf hoj (hfree j oj hoj hji hjun hnot) (fun cs b=>hsel i oi cs b hi) (fun cs b=>hsel j oj cs b hoj) hQ hy h1
 have hfree': ∀k ok,ops[k]?=some ok→k≠i→(listed.setIfInBounds j true).getD k true=false→
   (∀e∈ok.after,Region.binds .any e=true→e.on≠i)→oi.apart ops ok=true:=fun k ok hk hki hun hno=>by
  refine hfree k ok hk hki ?_ hno
  by_cases hjk:j=k
  ·subst hjk
   exact hjun
  ·rw[getD_set_ne true hjk] at hun
   exact hun
 refine wpOp_mono (fun a' w' h3=>⟨h3.2.1,ih (listed.setIfInBounds j true) a' w' hfree' (ready_mono hr (Ne.symm hji)) h3.1 (h3.2.1 hjs) ?_⟩) h2
 rw[Array.setIfInBounds_comm _ _ hji]
 exact h3.2.2))
theorem QE (hQ: ∀c a d v w,Q (.panic c) (Act.put a (some d) v) w→Q (.panic c) a w): ∀c a d v w,Q (.panic c) (Act.put a d v) w→Q (.panic c) a w
 |_,_,none,_,_,h=>h
 |c,a,some d,v,w,h=>hQ c a d v w h
theorem RN {i:Nat}(h:waits ops stop i=true): ∀o,ops[stop]?=some o→ ∃e∈o.after,Region.binds .any e=true∧e.on=i:=by
 intro o ho
 unfold waits at h
 rw[ho] at h
 simp only[Array.any_eq_true,Bool.and_eq_true,beq_iff_eq] at h
 obtain⟨k,hk,h1,h2⟩:=h
 exact⟨o.after[k],Array.getElem_mem hk,h1,h2⟩
theorem Ya (hsel:Region.noSelect ops=true)(hQ: ∀c a d v w,Q (.panic c) (Act.put a (some d) v) w→Q (.panic c) a w):
  ∀(order:List (Nat×Oper)) (fuel:Nat) (listed:Array Bool) (a:Act) (w:World),(∀x∈order,ops[x.1]?=some x.2)→order.length≤fuel→Zay ops stop hards order listed=true→(order≠ []→S w)→Uu P ops Q S stop hards order a w→Ur P ops Q S stop fuel listed a w
 | [],fuel,listed,a,w,_,_,hok,_,h=>by(
 have hr:Region.ready .any ops listed= []:=by simpa [Zay] using hok
 cases fuel with
 |zero=>exact⟨hr,h⟩
 |succ n=>exact⟨fun _=>h,by rw[hr];simp⟩)
 |x::r,0,listed,a,w,_,hf,_,_,_=>by simp at hf
 |(i,o)::r,fuel+1,listed,a,w,hm,hf,hok,hS',h=>by(
 simp only[Zay,Bool.and_eq_true] at hok
 obtain⟨⟨hc,hk⟩,hrest⟩:=hok
 have hS:=hS' (by simp)
 have ho:ops[i]?=some o:=hm (i,o) List.mem_cons_self
 have hm': ∀x∈r,ops[x.1]?=some x.2:=fun x hx=>hm x (List.mem_cons_of_mem _ hx)
 have hf':r.length≤fuel:=by simpa using hf
 have soft: ∀v,hards.contains i=false→YieldsIf P ops S o v a→Uu P ops Q S stop hards r (a.put o.dst v) w→Ur P ops Q S stop (fuel+1) listed a w:=by(
 intro v hh hy h
 rw[hh] at hk
 simp only[Bool.false_eq_true,if_false,Bool.and_eq_true,bne_iff_ne,ne_eq] at hk
 exact RJ ho (Region.noSelect_spec hsel) (fun c a w=>QE hQ c a _ _ w) hk.2 (RN hk.1.2) fuel listed a w (Region.free_spec ho hk.1.1) (by simpa using hc) hy hS (Ya hsel hQ r fuel _ _ _ hm' hf' hrest (fun _=>hS) h))
 rcases h with⟨hw,hh,v,hy,h⟩|⟨hw,h⟩|⟨hh,hw,h⟩
 ·exact soft v hh (.inl ⟨hw,hy⟩) h
 ·(
 by_cases hh:hards.contains i=true
 ·(
 rw[hh] at hk
 simp only[if_true,Bool.and_eq_true,beq_iff_eq] at hk
 refine⟨fun h0=>(by rw[hk.1] at h0;cases h0),fun j hj=> ?_⟩
 rw[hk.1] at hj
 obtain rfl:j=i:=by simpa using hj
 unfold wpOp
 simp only[ho,hw]
 exact⟨fun _=>hS,Ya hsel hQ r fuel _ _ _ hm' hf' hrest (fun _=>hS) h⟩)
 ·rw[Bool.not_eq_true] at hh
  exact soft undef hh (.inr ⟨hw,rfl⟩) h)
 ·(
 rw[hh] at hk
 simp only[if_true,Bool.and_eq_true,beq_iff_eq,Bool.or_eq_true,bne_iff_ne,ne_eq,List.isEmpty_iff] at hk
 refine⟨fun h0=>(by rw[hk.1] at h0;cases h0),fun j hj=> ?_⟩
 rw[hk.1] at hj
 obtain rfl:j=i:=by simpa using hj
 unfold wpOp
 simp only[ho,hw,if_true]
 refine .inl (Oper.wp_mono (fun a' w' ⟨h1,h2⟩=>⟨h1,Ya hsel hQ r fuel _ _ _ hm' hf' hrest (fun hne=> ?_) h2⟩) h)
 rcases hk.2 with e|e
 ·exact h1 e
 ·exact absurd e hne))
theorem Zaz {id:Nat}{l:List Oper}{a:Act}{w:World}(order:List Nat)(hards:List Nat)(stop:Nat)(S:World→Prop)(hm:P.follows .mixedOrders=true)(hsel:Region.noSelect l.toArray=true)
  (hlen:((steps l order).length==l.length)=true) (hok:Zay l.toArray stop hards (steps l order) (Array.replicate l.length false)=true) (hQ: ∀c a d v w,Q (.panic c) (Act.put a (some d) v) w→Q (.panic c) a w)
  (hS:S w.drew) (h:Uu P l.toArray Q S stop hards (steps l order) a w.drew):(Code.region id l.toArray true).wp P Q a w:=
 wp_region_any hm (KP _ _ _ _ (Ya hsel hQ (steps l order) _ _ a w.drew (fun x hx=>by rw[List.getElem?_toArray];exact UM l order x hx) (by rw[List.size_toArray];exact Nat.le_of_eq (by simpa using hlen)) hok (fun _=>hS) h))
theorem wro {id:Nat}{l:List Oper}{a:Act}{w:World}(order:List Nat)(hards:List Nat)(stop:Nat)(S:World→Prop)(hok:(P.follows .mixedOrders && (Region.noSelect l.toArray && (((steps l order).length==l.length) && Zay l.toArray stop hards (steps l order) (Array.replicate l.length false))))=true)(hQ: ∀c a d v w,Q (.panic c) (Act.put a (some d) v) w→Q (.panic c) a w)
  (hS:S w.drew) (h:Uu P l.toArray Q S stop hards (steps l order) a w.drew):(Code.region id l.toArray true).wp P Q a w:=by
 obtain⟨h1,hok⟩:=Bool.and_eq_true_iff.1 hok
 obtain⟨h2,hok⟩:=Bool.and_eq_true_iff.1 hok
 obtain⟨h3,h4⟩:=Bool.and_eq_true_iff.1 hok
 exact Zaz order hards stop S h1 h2 h3 h4 hQ hS h
theorem Zd {i:Nat}{r:List (Nat×Oper)}{a:Act}{w:World}{o:Oper}{v:Value}(hh:hards.contains i=false)(hw:Region.wanted o (yielded ops a.tmps)=true)
  (hy: ∀w',S w'→(execOp a.eval o).run P w'= .ok (.value v) w') (h:Uu P ops Q S stop hards r (a.put o.dst v) w):Uu P ops Q S stop hards ((i,o)::r) a w:=
 .inl ⟨hw,hh,v,hy,h⟩
theorem Zf {i:Nat}{r:List (Nat×Oper)}{a:Act}{w:World}{o:Oper}(hw:Region.wanted o (yielded ops a.tmps)=false)
  (h:Uu P ops Q S stop hards r (a.put o.dst undef) w):Uu P ops Q S stop hards ((i,o)::r) a w:=
 .inr (.inl ⟨hw,h⟩)
theorem Ze {i:Nat}{r:List (Nat×Oper)}{a:Act}{w:World}{o:Oper}(hh:hards.contains i=true)(hw:Region.wanted o (yielded ops a.tmps)=true)
  (h: ∀K:Act→World→Prop,Shut (∀a' w',(i≠stop→S w')→Uu P ops Q S stop hards r a' w'→K a' w')→Oper.wp P o a w K Q):Uu P ops Q S stop hards ((i,o)::r) a w:=
 .inr (.inr ⟨hh,hw,h _ (fun _ _ h1 h2=>⟨h1,h2⟩)⟩)
theorem Zg {a:Act}{w:World}(h:Q .normal a w):Uu P ops Q S stop hards [] a w:=h
end
end Go.Proofs.YtmejhedegmjboaaGreat
namespace Go.Proofs.YtmejhedegmjboaaGreat
open Go
structure Open (F:Fence)(P:Program):Prop where
 fn: ∀f,F.fn f
 depth:F.depth=none
 calls: ∀{n:Nat} {f:FuncId} {args:Array Value} {w:World} {R:Ending→World→Prop},Calls P f args w R→CallsIn F n P f args w R
 rows: ∀{n:Nat} {row:String} {args:Array Value} {w:World} {R:Value→World→Prop},Rows P row args w R→RowsIn F n P row args w R
theorem VU (P:Program)(l:Nat):Open (Fence.wide.inRound l) P:=
 ⟨fun _=>trivial,rfl,fun h=>CallsIn.inRound l (callsIn_wide.2 h),fun h c cs _=>let ⟨v,w',r,s⟩:=h c cs;⟨v,w',r,stepsIn_wide.2 s⟩⟩
theorem VV (P:Program):Open Fence.wide P:=
 ⟨fun _=>trivial,rfl,fun h=>callsIn_wide.2 h,fun h c cs _=>let ⟨v,w',r,s⟩:=h c cs;⟨v,w',r,stepsIn_wide.2 s⟩⟩
section
variable {P:Program} {Q:Exit→Act→World→Prop} {n:Nat} {F:Fence}
theorem ZeC (hF:Open F P){o:Oper}{a:Act}{w:World}{K:Act→World→Prop}(hd: ∀c,o.op≠ .defer c)(h:o.wp P a w K Q):o.wpIn F n P a w K Q:=by
 refine⟨fun _ _=>hF.fn _,?_⟩
 unfold Oper.wp at h
 rw[Oper.semAt_eq _ _ _ hd]
 generalize (execOp a.eval o).run P w=r at*
 cases r with
 |ok x w'=>(
 cases x <;> simp only[Oper.upon,Oper.uponIn] at h ⊢ <;>
  first
   |exact h
   |exact⟨fun e=>(by rw[hF.depth] at e;cases e),hF.calls h⟩
   |exact⟨fun e=>(by rw[hF.depth] at e;cases e),hF.rows h⟩
   |exact h.elim)
 |halt x w'=>cases x <;> simp only[Oper.upon,Oper.uponIn] at h ⊢ <;> exact h
def RX (ops:List Oper):Bool:=ops.all fun o=>match o.op with
 | .defer _=>false
 |_=>true
theorem ZaM {ops:List Oper}(h:RX ops=true){i:Nat}{o:Oper}(ho:ops[i]?=some o): ∀c,o.op≠ .defer c:=by
 intro c e
 have:=List.all_eq_true.1 h o (List.mem_of_getElem? ho)
 rw[e] at this
 cases this
theorem Zjx (hF:Open F P){ops:List Oper}(hd:RX ops=true)(hout: ¬LetsOut Q){i:Nat}{K:Act→World→Prop}{a:Act}{w:World}(h:wpOp P ops.toArray Q i K a w):wpOpIn F n P ops.toArray Q i K a w:=by
 unfold wpOp at h
 unfold wpOpIn
 cases ho:ops.toArray[i]? with
 |none=>simpa only[ho] using h
 |some o=>(
 simp only[ho] at h ⊢
 split
 ·(
 rename_i hw
 simp only[hw,if_true] at h
 rcases h with h|h
 ·exact ZeC hF (ZaM hd (by simpa using ho)) h
 ·exact absurd h.2 hout)
 ·rename_i hw
  simp only[hw] at h
  exact⟨fun _ _=>hF.fn _,h⟩)
theorem ZiR (hF:Open F P){md:Region.Mode}{ops:List Oper}(hd:RX ops=true)(hout: ¬LetsOut Q): ∀(fuel:Nat) (listed:Array Bool) (a:Act) (w:World),wpAny P md ops.toArray Q fuel listed a w→wpAnyIn F n P md ops.toArray Q fuel listed a w
 |0,_,_,_,h=>h
 |fuel+1,_,_,_,h=>⟨h.1,fun i hi=>Zjx hF hd hout (wpOp_mono (fun a' w' h'=>ZiR hF hd hout fuel _ a' w' h') (h.2 i hi))⟩
def Tame (Q:Exit→Act→World→Prop):Exit→Act→World→Prop
 | .outgrown,_,_=>False
 | .panic _,_,_=>False
 |e,a,w=>Q e a w
theorem Zg8 {Q:Exit→Act→World→Prop}: ¬LetsOut (Tame Q):=fun ⟨_,_,h⟩=>h
theorem Zjy {Q:Exit→Act→World→Prop}: ∀e a w,Tame Q e a w→Q e a w
 | .normal,_,_,h=>h
 | .ret,_,_,h=>h
 | .exit _,_,_,h=>h
 | .goto _,_,_,h=>h
theorem Zu (hF:Open F P){id:Nat}{ops:List Oper}{a:Act}{w:World}(order:List Nat)(hards:List Nat)(stop:Nat)(S:World→Prop)(hm:P.follows .mixedOrders=true)(hsel:Region.noSelect ops.toArray=true)(hd:RX ops=true)
  (hlen:((steps ops order).length==ops.length)=true) (hok:Zay ops.toArray stop hards (steps ops order) (Array.replicate ops.length false)=true)
  (hS:S w.drew) (h:Uu P ops.toArray (Tame Q) S stop hards (steps ops order) a w.drew):(Code.region id ops.toArray true).wpIn F n P Q a w:=by
 refine(fun h1:(Code.region id ops.toArray true).wpIn F n P (Tame Q) a w=> ?_) ?_
 rotate_left
 ·refine wpIn_region_any hm (ZiR hF hd Zg8 _ _ _ _ ?_)
  refine KP _ _ _ _ (Ya (Q:=Tame Q) hsel (fun _ _ _ _ _ h=>h) (steps ops order) _ _ a w.drew (fun x hx=>by rw[List.getElem?_toArray];exact UM ops order x hx) (by rw[List.size_toArray];exact Nat.le_of_eq (by simpa using hlen)) hok (fun _=>hS) h)
 ·exact wpIn_mono h1 Zjy
theorem Vf {S:World→Prop}{stop:Nat}{hards:List Nat}{ops:Array Oper}{a:Act}{w:World}(h:Q .normal a w):Uu P ops (Tame Q) S stop hards [] a w:=h
end
end Go.Proofs.YtmejhedegmjboaaGreat
namespace Go.Proofs.YtmejhedegmjboaaGreat
open Go Go.RowKit
def Comes {α:Type}(P:Program)(n gf:Nat)(lb:Array Value)(encs:α→Array Value)(St Kp:World→World→Prop)(ys:List α)(w:World):Prop:=
 ∀(l:Nat) (J:List α→World→Prop) (W:World),Below w.heap.size w W→(∀pre A B,J pre A→St A B→J pre B)→
  (∀pre x W1,J pre W1→pre.length < ys.length→YieldAt Fence.wide (n - 1) P l (encs x) W1 fun e W'=>e= .returned (.bool true)∧J (pre++ [x]) W'∧Kp W1 W')→
  J [] W→CallsIn Fence.wide n P gf (#[.func (.yield l) #[] #[]]++lb) W fun e W'=>(∃v,e= .returned v)∧J ys W'
def Goes {α:Type}(Kp:World→World→Prop)(I:List α→World→Prop)(xs:List α)(W:World):Exit→Act→World→Prop
 | .normal,_,W'=>KeepsOthers W W'∧Kp W W'∧I xs W'
 |_,_,_=>False
theorem ZeD {α:Type}{P:Program}{n:Nat}{g:Operand}{ps:Array Tmp}{assign body:Code}{Q:Exit→Act→World→Prop}{a:Act}{w:World}{gf:Nat}{lb:Array Value}
  (hg:a.eval g= .func (.func gf) #[] lb) (eg: ∀args w,(callFunc gf args).run P w= .ok (.enter gf args) w) {encs:α→Array Value} {St Kp:World→World→Prop} {ys:List α} (hseq:Comes P (n - 1) gf lb encs St Kp ys w)
  (ht: ∀{A B C:World},Kp A B→Kp B C→Kp A C) (hb: ∀(W:World) (l:Nat) (o o':Obj),w.heap.size≤l→W.heap[l]?=some o→o.isCells=false→Kp W (W.putObj l o')) (hs: ∀{A B:World},St A B→KeepsOthers A B) (hsz: ∀x,(encs x).size=ps.size)
  (I:List α→World→Prop) (hI:OwnFrom w.heap.size I) (hIs: ∀pre A B,I pre A→St A B→I pre B) (h0:I [] w) (a₁:α→Act)
  (hassign: ∀(l:Nat) (x:α) (W:World) (K:Act→World→Prop),K (a₁ x) W→
   assign.wpIn (Fence.wide.inRound l) (n - 1 - 1) P (Exit.then K (fun _ _ _=>False)) {tmps:=(ps.zip (encs x)).foldl (fun t (p,v)=>t.setIfInBounds p v) a.tmps,defers:= []} W)
  (hbody: ∀(l:Nat) (pre:List α) (x:α) (W:World),I pre W→pre.length < ys.length→body.wpIn (Fence.wide.inRound l) (n - 1 - 1) P (Goes Kp I (pre++ [x]) W) (a₁ x) W)
  (hdone: ∀(D:Nat) (W:World),w.heap.size≤D→I ys W→W.heap[D]?=some (.deferred (some []))→Q .normal {a with defers:={target:= .collected D,args:= #[]}::a.defers} W):
  (Code.rangeFunc g ps assign body).wpIn Fence.wide n P Q a w:=by
 refine wpIn_rangeFunc fun fn hfn=> ?_
 have hlaid: ∀st:LoopState,∃r:Loop,r={state:=st,pending:=none,fn,tmps:=a.tmps,params:=ps,assign,body,defers:=w.heap.size}:=fun _=>⟨_,rfl⟩
 obtain⟨r,hr⟩:=hlaid .ready
 obtain⟨rb,hrb⟩:=hlaid .busy
 obtain⟨W1,hW1⟩: ∃W1,W1=(w.alloc (.deferred (some []))).alloc (.loop r):=⟨_,rfl⟩
 have hl1:W1.heap[w.heap.size+1]?=some (.loop r):=by(
 have:=heap_alloc_new (w.alloc (.deferred (some []))) (.loop r)
 rw[World.size_alloc] at this
 rw[hW1]
 exact this)
 have hd1:W1.heap[w.heap.size]?=some (.deferred (some [])):=by
  rw[hW1]
  exact(Below.heap_alloc _ _ _ (by simp)).trans (heap_alloc_new w _)
 have hb1:Below w.heap.size w W1:=by
  rw[hW1]
  exact((Below.refl _ w).alloc lR _).alloc (by simp) _
 refine⟨w.heap.size+1,[{target:= .collected w.heap.size,args:= #[]}],W1,{target:= .fn (.func gf) lb,args:= #[.func (.yield (w.heap.size+1)) #[] #[]]},W1,gf,#[.func (.yield (w.heap.size+1)) #[] #[]]++lb,W1,?_,?_,fun _ _=>trivial,?_,fun e=>(by cases e),?_⟩
 ·rw[hW1,hr]
  exact run_enterLoop_outer _ _ _ _ _
 ·simp only[resolve,hg]
  simp[go_sem]
 ·simp[invoke,go_sem,eg]
 refine(hseq (w.heap.size+1) (fun pre W=>I pre W∧W.heap[w.heap.size+1]?=some (.loop r)∧W.heap[w.heap.size]?=some (.deferred (some []))) W1 hb1
  (fun pre A B h k=>⟨hIs pre A B h.1 k,(hs k).same _ _ h.2.1 rfl,(hs k).same _ _ h.2.2 rfl⟩) ?_ ⟨by rw[hW1];exact hI.alloc _ (hI.alloc _ h0),hl1,hd1⟩).mono ?_
 ·(
 rintro pre x W ⟨hi,hl,hd⟩ hlen
 have hlt:w.heap.size+1 < W.heap.size:=(Array.getElem?_eq_some_iff.1 hl).1
 have hy:=run_yield (P:=P) (args:=encs x) hl (by rw[hr];exact hsz x)
 have hst:r.state= .ready:=by rw[hr]
 have hbz:{r with state:= .busy}=rb:=by rw[hr,hrb]
 have hbeg:=run_beginRound (P:=P) hl hst
 rw[hbz] at hbeg
 have e1:r.fn=fn:=by rw[hr]
 have e2:r.assign=assign:=by rw[hr]
 have e3:r.body=body:=by rw[hr]
 have e4:r.tmps=a.tmps:=by rw[hr]
 have e5:r.params=ps:=by rw[hr]
 rw[e1,e2,e3,e4,e5] at hy
 have hl2:(W.putObj (w.heap.size+1) (.loop rb)).heap[w.heap.size+1]?=some (.loop rb):=World.putObj_heap_same hlt
 have hd2:(W.putObj (w.heap.size+1) (.loop rb)).heap[w.heap.size]?=some (.deferred (some [])):=(World.putObj_heap_other (by omega)).trans hd
 refine⟨fn,_,assign,body,hy,roundIn_of_wpIn hfn (hassign _ x W _ ⟨_,hbeg,?_⟩)⟩
 refine wpIn_mono (hbody _ pre x _ (hI.putObj _ hi (by omega) hl rfl) hlen) ?_
 rintro e a3 W3 hp
 cases e with
 |normal=>(
 obtain⟨k1,k2,k3⟩:=hp
 have hl3:=k1.same _ _ hl2 rfl
 have hd3:=k1.same _ _ hd2 rfl
 have hend:=run_endRound (P:=P) none hl3
 have hrd:({rb with state:=if (none:Option Code).isNone then .ready else .done,pending:=none}:Loop)=r:=by rw[hr,hrb];rfl
 rw[hrd] at hend
 exact⟨_,_,hend,rfl,⟨hI.putObj _ k3 (by omega) hl3 rfl,World.putObj_heap_same (Array.getElem?_eq_some_iff.1 hl3).1,(World.putObj_heap_other (by omega)).trans hd3⟩,ht (ht (hb _ _ _ _ (by omega) hl rfl) k2) (hb _ _ _ _ (by omega) hl3 rfl)⟩)
 |ret=>exact hp.elim
 |exit id=>exact hp.elim
 |goto t=>exact hp.elim
 |panic ch=>exact hp.elim
 |outgrown=>exact hp.elim)
 ·(
 rintro e W2 ⟨⟨v,rfl⟩,hi,hl,hd⟩
 have hfin:=run_endLoop (P:=P) hl (by rw[hr];simp)
 have hpe:r.pending=none:=by rw[hr]
 rw[hpe] at hfin
 exact⟨none,_,hfin,hdone _ _ lR (hI.putObj _ hi (by omega) hl rfl) ((World.putObj_heap_other (by omega)).trans hd)⟩)
end Go.Proofs.YtmejhedegmjboaaGreat
