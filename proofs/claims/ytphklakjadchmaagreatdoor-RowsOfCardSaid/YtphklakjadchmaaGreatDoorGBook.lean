import Derived.Laws.AppendOwn
import Derived.LoopTactic
import Derived.Outline
import Derived.Test.YtphklakjadchmaaGreatDoorRange
import Derived.Test.YtphklakjadchmaaGreatDoorRs
namespace Go.Proofs.YtphklakjadchmaaGreatDoor
open Go.RowKit
structure Held where
 bk:Nat
 hb:Nat
 cap:Nat
 m:Nat
 g:Nat→Nat
 n:Nat→Nat
 c:Nat→Nat
 no:Nat→Nat
 nl:Nat→Bool
def Held.a (h:Held)(i:Nat):Option Addr:=if h.nl i then none else some ⟨h.g i,0,none⟩
def Held.D (h:Held)(k b:Nat):Prop:= ∃j,j < k∧h.nl j=false∧b=h.g j
theorem Held.D.more {h:Held}{k k' b:Nat}(hd:h.D k b)(hk:k≤k'):h.D k' b:=by
 obtain⟨j,h1,h2,h3⟩:=hd
 exact⟨j,by omega,h2,h3⟩
def nrm:Value→Value
 | .slice _ n c=> .slice none n c
 |v=>v
theorem nrm_back {v u:Value}(hv: ∀A n c,v≠ .slice A n c)(h:nrm u=nrm v):u=v:=by
 have h2:nrm v=v:=by
  cases v <;> first|rfl|exact absurd rfl (hv _ _ _)
 rw[h2] at h
 cases u with
 |slice A n c=>exact absurd h.symm (hv none n c)
 |_=>exact h
theorem nrm_slice {u:Value}{n c:Nat}(h:nrm u= .slice none n c): ∃A,u= .slice A n c:=by
 cases u with
 |slice A n' c'=>
  injection h with _ h1 h2
  subst h1 h2
  exact⟨A,rfl⟩
 |_=>cases h
theorem nrm_at {us vs:List Value}(h:us.map nrm=vs.map nrm)(j:Nat):(us[j]?).map nrm=(vs[j]?).map nrm:=by
 rw[← List.getElem?_map, ← List.getElem?_map,h]
theorem nrm_some {o:Option Value}{v:Value}(hv: ∀A n c,v≠ .slice A n c)(h:o.map nrm=(some v).map nrm):o=some v:=by
 cases o with
 |none=>cases h
 |some u=>
  injection h with h
  rw[nrm_back hv h]
def Mk (sz:Nat)(us:List Value)(q:Nat)(cur:Array Value):Prop:= ∀j,j < q*sz→(cur[j]?).map nrm=(us[j%sz]?).map nrm
theorem Mk.more {sz k:Nat}{us vs:List Value}{cur cur':Array Value}(h:Mk sz us k cur)(old: ∀j,j < k*sz→cur'[j]?=cur[j]?)(new: ∀j,j < sz→cur'[k*sz+j]?=vs[j]?)(hv:vs.map nrm=us.map nrm):Mk sz us (k+1) cur':=by
 intro j hj
 rw[Nat.add_mul,Nat.one_mul] at hj
 by_cases e:j < k*sz
 ·rw[old j e]
  exact h j e
 ·obtain⟨r,rfl⟩: ∃r,j=k*sz+r:=⟨j - k*sz,by omega⟩
  have hr:r < sz:=by omega
  rw[new r hr,Nat.mul_comm,Nat.mul_add_mod,Nat.mod_eq_of_lt hr]
  exact nrm_at hv r
theorem Mk.less {sz k k':Nat}{us:List Value}{cur:Array Value}(h:Mk sz us k cur)(hk:k'≤k):Mk sz us k' cur:=fun j hj=>h j (Nat.lt_of_lt_of_le hj (Nat.mul_le_mul_right _ hk))
theorem Mk.zero (sz:Nat)(us:List Value)(cur:Array Value):Mk sz us 0 cur:=fun j hj=>absurd hj (by omega)
theorem Mk.atn {sz k q i:Nat}{us:List Value}{cur:Array Value}(h:Mk sz us k cur)(hq:q < k)(hi:i < sz):(cur[q*sz+i]?).map nrm=(us[i]?).map nrm:=by
 have:q*sz+i < k*sz:=by
  calc q*sz+i < q*sz+sz:=by omega
   _=(q+1)*sz:=by rw[Nat.add_mul,Nat.one_mul]
   _≤k*sz:=Nat.mul_le_mul_right _ hq
 rw[h _ this,Nat.mul_comm,Nat.mul_add_mod,Nat.mod_eq_of_lt hi]
theorem Mk.at {sz k q i:Nat}{us:List Value}{cur:Array Value}{v:Value}(h:Mk sz us k cur)(hq:q < k)(hi:i < sz)(hu:us[i]?=some v)(hv: ∀A n c,v≠ .slice A n c):cur[q*sz+i]?=some v:=
 nrm_some hv ((h.atn hq hi).trans (by rw[hu]))
theorem ne_type {w:World}{a b E F:Nat}{x y:Array Value}(h1:w.heap[a]?=some (.cells x E (0,0)))(h2:w.heap[b]?=some (.cells y F (0,0)))(hne:E≠F):a≠b:=by
 rintro rfl
 rw[h1] at h2
 injection h2 with h2
 injection h2 with _ h2
 exact hne h2
theorem own_blk {W W':World}{base n sz:Nat}{E:TypeId}{v:Value}{xs:List Value}(h:W.ownsRow base E sz v n xs)(hk: ∀g,v.ownBlock=some g→W'.heap[g]?=W.heap[g]?):W'.ownsRow base E sz v n xs:=by
 refine⟨h.1,?_⟩
 rcases h.2 with hn|⟨g',cap,cur,hv,hb,hg,r⟩
 ·exact .inl hn
 ·exact .inr ⟨g',cap,cur,hv,hb,(hk g' (by rw[hv];rfl)).trans hg,r⟩
def setAll (w:World)(g o:Nat):List Value→World
 | []=>w
 |u::us=>setAll (w.setCell ⟨g,o,none⟩ u) g (o+1) us
theorem setAll_size: ∀(us:List Value) (w:World) (g o:Nat),(setAll w g o us).heap.size=w.heap.size
 | [],_,_,_=>rfl
 |u::us,w,g,o=>by rw[setAll,setAll_size us];simp[World.setCell]
theorem setAll_ne: ∀(us:List Value) (w:World) (g o b:Nat),b≠g→(setAll w g o us).heap[b]?=w.heap[b]?
 | [],_,_,_,_,_=>rfl
 |u::us,w,g,o,b,h=>by rw[setAll,setAll_ne us _ g _ b h];exact Below.heap_setCell w ⟨g,o,none⟩ u b h
theorem setAll_blk: ∀(us:List Value) (w:World) (g o:Nat) (cur:Array Value) (E:TypeId),w.heap[g]?=some (.cells cur E (0,0))→o+us.length≤cur.size→
  ∃cur',(setAll w g o us).heap[g]?=some (.cells cur' E (0,0))∧cur'.size=cur.size∧(∀j,j < o→cur'[j]?=cur[j]?)∧ ∀j,j < us.length→cur'[o+j]?=us[j]?
 | [],_,_,_,cur,_,h,_=>⟨cur,h,rfl,fun _ _=>rfl,fun j hj=>by simp at hj⟩
 |u::us,w,g,o,cur,E,h,hs=>by
  rw[List.length_cons] at hs
  obtain⟨cur',h1,h2,h3,h4⟩:=setAll_blk us (w.setCell ⟨g,o,none⟩ u) g (o+1) _ E (set_blk h u) (by rw[Array.size_setIfInBounds];omega)
  rw[Array.size_setIfInBounds] at h2
  refine⟨cur',h1,h2,fun j hj=> ?_,fun j hj=> ?_⟩
  ·rw[h3 j (by omega),Array.getElem?_setIfInBounds_ne (by omega)]
  ·rcases j with _|j
   ·rw[Nat.add_zero,h3 o (by omega),Array.getElem?_setIfInBounds_self_of_lt (by omega)]
    rfl
   ·rw[show o+(j+1)=o+1+j by omega,h4 j (by simpa using hj)]
    rfl
theorem Kept.setAll {D:Nat→Prop}{a:World}: ∀(us:List Value) {w:World} {g o:Nat},Kept D a w→D g→Kept D a (setAll w g o us)
 | [],_,_,_,h,_=>h
 |u::us,_,g,o,h,hd=>Kept.setAll us (h.setCell (p:=⟨g,o,none⟩) (.inl hd) u) hd
theorem setAll_cell {us:List Value}{w:World}{g o:Nat}{p:Addr}(h:p.block≠g):(setAll w g o us).cell? p=w.cell? p:=World.cell?_of_block (setAll_ne us w g o p.block h)
structure BookAt (K HT E sz:Nat)(h:Held)(w:World):Prop where
 many:h.m≤1000
 cellK:w.cell? ⟨h.bk,K,none⟩=some (.slice (some ⟨h.hb,0,none⟩) h.m h.cap)
 l: ∀i,i < h.m→w.cell? ⟨h.hb,i*3,none⟩=some (.slice (h.a i) (h.n i) (h.c i))
 lo: ∀i,i < h.m→ ∃A n c,w.cell? ⟨h.hb,i*3+1,none⟩=some (.slice A n c)
 no: ∀i,i < h.m→w.cell? ⟨h.hb,i*3+2,none⟩=some (.int .i64 (h.no i:Int))
 bblk: ∃B,w.heap[h.bk]?=some (.cells B 62 (0,0))
 hblk: ∃H,w.heap[h.hb]?=some (.cells H HT (0,0))
 small: ∀i,i < h.m→h.n i≤1000000∧h.no i≤1000
 nils: ∀i,i < h.m→h.nl i=true→h.n i=0∧h.c i=0
 blk: ∀i,i < h.m→h.nl i=false→ ∃cur,w.heap[h.g i]?=some (.cells cur E (0,0))∧cur.size=h.c i*sz∧h.n i≤h.c i∧h.c i≤maxLen
 apart: ∀i j,i < h.m→j < h.m→h.nl i=false→h.nl j=false→i≠j→h.g i≠h.g j
def Marked (E sz:Nat)(mk:Nat→List Value)(h:Held)(w:World)(k q:Nat):Prop:=h.nl k=false→ ∃cur,w.heap[h.g k]?=some (.cells cur E (0,0))∧cur.size=h.c k*sz∧Mk sz (mk (h.no k)) q cur
section
variable {K HT E sz:Nat} {mk:Nat→List Value} {h:Held} {w w' wr w2 wo wi w1:World} {D:Nat→Prop}
theorem BookAt.blt (hB:BookAt K HT E sz h w):h.bk < w.heap.size:=by obtain⟨_,e⟩:=hB.bblk;exact lt_blk e
theorem BookAt.hlt (hB:BookAt K HT E sz h w):h.hb < w.heap.size:=by obtain⟨_,e⟩:=hB.hblk;exact lt_blk e
theorem BookAt.dtype (hB:BookAt K HT E sz h w){b:Nat}(hd:h.D h.m b): ∃cur,w.heap[b]?=some (.cells cur E (0,0)):=by
 obtain⟨j,h1,h2,rfl⟩:=hd
 obtain⟨cur,e,_⟩:=hB.blk j h1 h2
 exact⟨cur,e⟩
theorem BookAt.nbk (hB:BookAt K HT E sz h w)(hE:E≠62): ¬h.D h.m h.bk:=fun hd=>by
 obtain⟨_,e⟩:=hB.dtype hd
 obtain⟨_,e'⟩:=hB.bblk
 exact ne_type e e' hE rfl
theorem BookAt.nhb (hB:BookAt K HT E sz h w)(hE:E≠HT): ¬h.D h.m h.hb:=fun hd=>by
 obtain⟨_,e⟩:=hB.dtype hd
 obtain⟨_,e'⟩:=hB.hblk
 exact ne_type e e' hE rfl
theorem BookAt.ne (hB:BookAt K HT E sz h w)(hE:HT≠62):h.bk≠h.hb:=by
 obtain⟨_,e⟩:=hB.bblk
 obtain⟨_,e'⟩:=hB.hblk
 exact fun he=>ne_type e' e hE he.symm
theorem BookAt.stay (hB:BookAt K HT E sz h w)(hk:Kept D w w')(h1: ¬D h.bk)(h2: ¬D h.hb)(hb: ∀i,i < h.m→h.nl i=false→ ∃cur,w'.heap[h.g i]?=some (.cells cur E (0,0))∧cur.size=h.c i*sz):BookAt K HT E sz h w':=by
 have hc: ∀o,w'.cell? ⟨h.hb,o,none⟩=w.cell? ⟨h.hb,o,none⟩:=fun o=>hk.cell (p:=⟨h.hb,o,none⟩) hB.hlt h2
 refine⟨hB.many,(hk.cell (p:=⟨h.bk,K,none⟩) hB.blt h1).trans hB.cellK,fun i hi=>(hc _).trans (hB.l i hi),fun i hi=> ?_,fun i hi=>(hc _).trans (hB.no i hi),?_,?_,hB.small,hB.nils,fun i hi hnl=> ?_,hB.apart⟩
 ·obtain⟨A,n,c,e⟩:=hB.lo i hi
  exact⟨A,n,c,(hc _).trans e⟩
 ·obtain⟨B,e⟩:=hB.bblk
  exact⟨B,(hk.block h.bk hB.blt h1).trans e⟩
 ·obtain⟨H,e⟩:=hB.hblk
  exact⟨H,(hk.block h.hb hB.hlt h2).trans e⟩
 ·obtain⟨cur,e1,e2⟩:=hb i hi hnl
  obtain⟨_,_,_,e3,e4⟩:=hB.blk i hi hnl
  exact⟨cur,e1,e2,e3,e4⟩
def FillRel (E sz:Nat)(mk:Nat→List Value)(h:Held)(w:World)(i2:Value)(wr:World):Prop:=
 ∃k:Nat,i2= .int .i64 (k:Int)∧k≤h.m∧Kept (h.D k) w wr∧ ∀j,j < k→Marked E sz mk h wr j (h.n j)
def FillIn (E sz:Nat)(mk:Nat→List Value)(h:Held)(w:World)(k C:Nat)(i4:Value)(wr:World):Prop:=
 ∃q:Nat,i4= .int .i64 (q:Int)∧q≤h.n k∧Kept (h.D (k+1)) w wr∧(∀j,j < k→Marked E sz mk h wr j (h.n j))∧Marked E sz mk h wr k q∧
  wr.cell? ⟨C,0,none⟩=some (.slice (h.a k) (h.n k) (h.c k))∧wr.cell? ⟨C,2,none⟩=some (.int .i64 (h.no k:Int))∧C < wr.heap.size
theorem marked_on {k q:Nat}(hm:Marked E sz mk h wr k q)(hk:Kept (fun _=>False) wr w2):Marked E sz mk h w2 k q:=fun hn=>by
 obtain⟨cur,e1,e2,e3⟩:=hm hn
 exact⟨cur,(hk.block _ (lt_blk e1) (fun h=>h)).trans e1,e2,e3⟩
theorem fillIn_next {us:List Value}{k C q:Nat}{cur:Array Value}(hus:us.map nrm=(mk (h.no k)).map nrm)(hul:us.length=sz)(hkept:Kept (h.D (k+1)) w wr)(hdone: ∀j,j < k→Marked E sz mk h wr j (h.n j))(hcur:wr.heap[h.g k]?=some (.cells cur E (0,0)))(hcs:cur.size=h.c k*sz)
  (hmq:Mk sz (mk (h.no k)) q cur) (hq:q < h.n k) (hnc:h.n k≤h.c k) (e0:wr.cell? ⟨C,0,none⟩=some (.slice (h.a k) (h.n k) (h.c k))) (e2:wr.cell? ⟨C,2,none⟩=some (.int .i64 (h.no k:Int))) (hC:C < wr.heap.size)
  (hgC:h.g k < C) (hap: ∀i j,i < h.m→j < h.m→h.nl i=false→h.nl j=false→i≠j→h.g i≠h.g j) (hkm:k < h.m) (hnl:h.nl k=false):FillIn E sz mk h w k C (.int .i64 ((q:Int)+1)) (setAll wr (h.g k) (q*sz) us):=by
 have hle:(q+1)*sz≤h.c k*sz:=Nat.mul_le_mul_right _ (by omega)
 rw[Nat.add_mul,Nat.one_mul] at hle
 obtain⟨cur',b1,b2,b3,b4⟩:=setAll_blk us wr (h.g k) (q*sz) cur E hcur (by omega)
 refine⟨q+1,by simp,by omega,Kept.setAll us hkept ⟨k,by omega,hnl,rfl⟩,fun j hj hnj=> ?_,fun _=>⟨cur',b1,by omega,?_⟩,(setAll_cell (p:=⟨C,0,none⟩) (by show C≠_;omega)).trans e0,(setAll_cell (p:=⟨C,2,none⟩) (by show C≠_;omega)).trans e2,by rw[setAll_size];exact hC⟩
 ·obtain⟨c2,h1,h2,h3⟩:=hdone j hj hnj
  exact⟨c2,(setAll_ne us wr _ _ (h.g j) (hap j k (by omega) hkm hnj hnl (by omega))).trans h1,h2,h3⟩
 ·exact hmq.more b3 (fun j hj=>b4 j (by omega)) hus
structure OneMore (E sz:Nat)(us:List Value)(w w':World)(L a c L' c':Nat)(cur cur':Array Value):Prop where
 blk:w'.heap[L']?=some (.cells cur' E (0,0))
 size:cur'.size=c'*sz
 room:a+1≤c'
 top:c'≤maxLen
 old: ∀j,j < a*sz→cur'[j]?=cur[j]?
 new: ∀j,j < sz→cur'[a*sz+j]?=us[j]?
 kept:Kept (fun b=>b=L∧L'=L) w w'
 place:(L'=L∧c'=c)∨L'=w.heap.size
theorem wpList_append_one {P:Program}(w:World){ops:Array Oper}{rest:List Oper}{o:Oper}{a:Act}{Q:Exit→Act→World→Prop}(hgd:o.guard=none)(s x:Operand)(t E sz:TypeId)(us:List Value)
  (ho:o.op= .call {callee:= .builtin .append,args:= #[s,x],argTypes:= #[t,t]}) (i:TypeInfo) (z:Value) (by1:Nat) (ht:P.underlying t=some (.slice E)) (hi:P.info? E=some i) (hz:i.zero=some z) (hsize:i.size=sz) (hby:i.bytes=by1) (hzs:z.cells.size=sz)
  (L n c:Nat) (cur:Array Value) (hs:a.eval s= .slice (some ⟨L,0,none⟩) n c) (hL:w.heap[L]?=some (.cells cur E (0,0))) (hcs:cur.size=c*sz) (hn:n≤c) (hc:c≤maxLen) (hb:(n+1)*by1≤140737488355328) (hn1:n≤2000000)
  (X:Nat) (hul:us.length=sz) (hx:a.eval x= .slice (some ⟨X,0,none⟩) 1 1) (hnews: ∀j v,us[j]?=some v→w.cell? ((⟨X,0,none⟩:Addr).add j)=some v) (h1: ∀v∈us,v.oneCell'=true)
  (h: ∀L' c' cur' w',OneMore E sz us w w' L n c L' c' cur cur'→wpList P ops Q rest (a.put o.dst (.slice (some ⟨L',0,none⟩) (n+1) c')) w'):wpList P ops Q (o::rest) a w:=by
 have hmul:(n+1)*sz=n*sz+sz:=by rw[Nat.add_mul,Nat.one_mul]
 have key: ∃L' c' cur' w',(Builtin.append_ #[t,t] o.type #[.slice (some ⟨L,0,none⟩) n c,.slice (some ⟨X,0,none⟩) 1 1]).run P w= .ok (.slice (some ⟨L',0,none⟩) (n+1) c') w'∧OneMore E sz us w w' L n c L' c' cur cur':=by
  by_cases hr:n+1≤c
  ·have hle:(n+1)*sz≤c*sz:=Nat.mul_le_mul_right _ hr
   have hrun:=run_append_room (P:=P) w t o.type E i ht hi L n c cur hL ⟨X,0,none⟩ 1 1 us (by rw[hsize,hul,Nat.one_mul]) hnews h1 hr (by rw[hsize,hul];omega)
   rw[hsize] at hrun
   have hl:(List.take (n*sz) cur.toList).length=n*sz:=by rw[List.length_take,Array.length_toList];omega
   refine⟨L,c,_,_,hrun,⟨setRow_heap w L cur _ E _ hL,?_,hr,hc,?_,?_,⟨rfl,rfl,rfl,by simp,fun b _ hn=>setRow_other w L b _ (fun e=>hn ⟨e.symm▸rfl,rfl⟩)⟩,.inl ⟨rfl,rfl⟩⟩⟩
   ·simp;omega
   ·intro j hj
    simp only[List.getElem?_toArray]
    rw[List.append_assoc,List.getElem?_append_left (by omega),List.getElem?_take_of_lt hj]
    simp
   ·intro j hj
    simp only[List.getElem?_toArray]
    rw[List.append_assoc,List.getElem?_append_right (by omega),hl,Nat.add_sub_cancel_left,List.getElem?_append_left (by omega)]
  ·obtain rfl:n=c:=by omega
   have holds: ∀j v,cur.toList[j]?=some v→w.cell? ((⟨L,0,none⟩:Addr).add j)=some v:=by
    intro j v hv
    rw[Addr.add_lit,Nat.zero_add,cell_blk hL]
    simpa using hv
   have hrun:=run_append_grow (P:=P) w t o.type E i z ht hi hz ⟨L,0,none⟩ n n cur.toList (by rw[hsize];simpa using hcs) holds ⟨X,0,none⟩ 1 1 us (by rw[hsize,hul,Nat.one_mul]) hnews (by omega) (by omega) (by rw[hby];exact growslice_fits (by omega) (by omega))
   have hge:=grownCap_ge w (n+1) n E
   have hle:=grownCap_le_maxLen w (n+1) n E (by unfold maxLen;omega)
   have hle2:(n+1)*sz≤(grownCap w (n+1) n E)*sz:=Nat.mul_le_mul_right _ hge
   refine⟨_,_,_,_,hrun,⟨heap_alloc_new w.drew _,?_,hge,hle,?_,?_,?_,.inr rfl⟩⟩
   ·simp only[Array.size_append,List.size_toArray,size_zeroCells,hzs,hcs,hul,Nat.sub_mul]
    omega
   ·intro j hj
    rw[Array.append_assoc,Array.getElem?_append_left (by simp;omega)]
   ·intro j hj
    rw[Array.append_assoc,Array.getElem?_append_right (by simp;omega)]
    have e:n*sz+j - cur.toList.toArray.size=j:=by simp[hcs]
    rw[e,Array.getElem?_append_left (by simp;omega)]
    simp
   ·have hkk:Kept (fun b=>b=L∧w.heap.size=L) w w.drew:=(Kept.refl _ _).drew
    exact hkk.alloc _
 obtain⟨L',c',cur',w',hrun,hone⟩:=key
 refine wpList_plain hgd fun K hK=> ?_
 unfold Oper.wp execOp
 simp only[ho,resolve,invoke,builtin,Sem.run_bind,Sem.run_pure,Result.andThen_ok,List.map_toArray,List.map_cons,List.map_nil,hs,hx,hrun]
 exact hK _ _ (h L' c' cur' w' hone)
def LongAt (E sz:Nat)(mk:Nat→List Value)(h:Held)(w:World)(j:Nat):Prop:=
 ∃L c cur,w.cell? ⟨h.hb,j*3+1,none⟩=some (.slice (some ⟨L,0,none⟩) (h.n j+40) c)∧w.heap[L]?=some (.cells cur E (0,0))∧cur.size=c*sz∧h.n j+40≤c∧c≤maxLen∧
  Mk sz (mk (h.no j)) (h.n j+40) cur∧ ∀i,i < h.m→i≠j→h.nl i=false→L≠h.g i
structure GrowAt (K HT E sz:Nat)(mk:Nat→List Value)(h:Held)(w:World)(k:Nat)(wr:World):Prop where
 kept:Kept (fun b=>b=h.hb∨h.D h.m b) w wr
 book:BookAt K HT E sz h wr
 marks: ∀j,j < h.m→Marked E sz mk h wr j (h.n j)
 longs: ∀j,j < k→LongAt E sz mk h wr j
def GrowRel (K HT E sz:Nat)(mk:Nat→List Value)(h:Held)(w:World)(i2:Value)(wr:World):Prop:= ∃k:Nat,i2= .int .i64 (k:Int)∧k≤h.m∧GrowAt K HT E sz mk h w k wr
structure GrowInAt (E sz:Nat)(mk:Nat→List Value)(h:Held)(wo:World)(k p:Nat)(L c:Nat)(wr:World):Prop where
 kept:Kept (fun b=>b=h.g k∧h.nl k=false) wo wr
 marked:Marked E sz mk h wr k (h.n k)
 long: ∃cur,wr.heap[L]?=some (.cells cur E (0,0))∧cur.size=c*sz∧h.n k+p≤c∧c≤maxLen∧Mk sz (mk (h.no k)) (h.n k+p) cur
 place:(L=h.g k∧c=h.c k∧h.nl k=false)∨wo.heap.size < L
def GrowIn (E sz:Nat)(mk:Nat→List Value)(h:Held)(wo:World)(k C:Nat)(v4 i5:Value)(wr:World):Prop:=
 ∃p:Nat,i5= .int .i64 (p:Int)∧p≤40∧wr.cell? ⟨C,2,none⟩=some (.int .i64 (h.no k:Int))∧C < wr.heap.size∧
  ((h.nl k=true∧p=0∧v4= .slice none 0 0∧Kept (fun _=>False) wo wr)∨ ∃L c:Nat,v4= .slice (some ⟨L,0,none⟩) (h.n k+p) c∧GrowInAt E sz mk h wo k p L c wr)
theorem growIn_next {k:Nat}{us:List Value}(hus:us.map nrm=(mk (h.no k)).map nrm){p L c L' c':Nat}{cur cur':Array Value}(hgo:h.nl k=false→h.g k < wo.heap.size)(hC:wo.heap.size < wr.heap.size)(hg:GrowInAt E sz mk h wo k p L c wr)(hcur:wr.heap[L]?=some (.cells cur E (0,0)))
  (hmq:Mk sz (mk (h.no k)) (h.n k+p) cur) (hk1:Kept (fun _=>False) wr w1) (h1:OneMore E sz us w1 w' L (h.n k+p) c L' c' cur cur'):GrowInAt E sz mk h wo k (p+1) L' c' w':=by
 have hsz:wr.heap.size≤w1.heap.size:=hk1.size
 have hLw:L < wr.heap.size:=lt_blk hcur
 have hmk':Kept (fun b=>b=L∧L'=L) wr w':=(hk1.mono (fun _ hf=>hf.elim)).trans h1.kept
 have hdirty: ∀b,(b=L∧L'=L)→(b=h.g k∧h.nl k=false)∨wo.heap.size < b:=by
  rintro b ⟨rfl,_⟩
  rcases hg.place with⟨e,_,en⟩|e
  ·exact .inl ⟨e,en⟩
  ·exact .inr e
 have hq':Mk sz (mk (h.no k)) (h.n k+(p+1)) cur':=by
  rw[← Nat.add_assoc]
  exact hmq.more h1.old h1.new hus
 refine⟨?_,?_,⟨cur',h1.blk,h1.size,by have:=h1.room;omega,h1.top,hq'⟩,?_⟩
 ·refine⟨hmk'.os.trans hg.kept.os,hmk'.tape.trans hg.kept.tape,hmk'.output.trans hg.kept.output,Nat.le_trans hg.kept.size hmk'.size,fun b hb hn=> ?_⟩
  refine(hmk'.block b (Nat.lt_of_lt_of_le hb hg.kept.size) fun hd=> ?_).trans (hg.kept.block b hb hn)
  rcases hdirty b hd with e|e
  ·exact hn e
  ·omega
 ·intro hnl
  obtain⟨c0,e1,e2,e3⟩:=hg.marked hnl
  have hgo':=hgo hnl
  by_cases e:L'=L∧h.g k=L
  ·have hb:=h1.blk
   rw[e.1, ← e.2] at hb
   refine⟨cur',hb,?_,hq'.less (by omega)⟩
   rcases h1.place with⟨_,ec⟩|en
   ·rcases hg.place with⟨_,ec',_⟩|en'
    ·rw[h1.size,ec,ec']
    ·omega
   ·omega
  ·exact⟨c0,(hmk'.block (h.g k) (lt_blk e1) fun hd=>e ⟨hd.2,hd.1⟩).trans e1,e2,e3⟩
 ·rcases h1.place with⟨e,ec⟩|e
  ·rcases hg.place with⟨e',ec',en⟩|e'
   ·exact .inl ⟨e.trans e',ec.trans ec',en⟩
   ·exact .inr (by omega)
  ·exact .inr (by have:=hg.kept.size;omega)
theorem growIn_copy {us:List Value}{k p L c L' c':Nat}{cur cur':Array Value}{v:Value}(hgo:h.nl k=false→h.g k < wo.heap.size)(hC:wo.heap.size < wr.heap.size)(hg:GrowInAt E sz mk h wo k p L c wr)(hk1:Kept (fun _=>False) wr w1)(h1:OneMore E sz us w1 w' L (h.n k+p) c L' c' cur cur')
  (e2:wr.cell? ⟨wo.heap.size,2,none⟩=some v):w'.cell? ⟨wo.heap.size,2,none⟩=some v:=by
 refine(h1.kept.cell (p:=⟨wo.heap.size,2,none⟩) (Nat.lt_of_lt_of_le hC hk1.size) ?_).trans ((hk1.cell (p:=⟨wo.heap.size,2,none⟩) hC (fun h=>h)).trans e2)
 rintro⟨e,_⟩
 have e:wo.heap.size=L:=e
 rcases hg.place with⟨e',_,en⟩|e'
 ·have:=hgo en
  omega
 ·omega
theorem growIn_first {k:Nat}{us:List Value}(hus:us.map nrm=(mk (h.no k)).map nrm){A':Option Addr}{k' c':Nat}(hn0:h.n k=0)(hnl:h.nl k=true)(hK:Kept (fun _=>False) wo wr)(hC:wo.heap.size < wr.heap.size)
  (e2:wr.cell? ⟨wo.heap.size,2,none⟩=some (.int .i64 (h.no k:Int))) (hk':k'=0+1) (own':w'.ownsRow wr.heap.size E sz (.slice A' k' c') k' ([]++us)) (hk0:Kept (fun _=>False) wr w1)
  (hg':w1.grownBy w' (Value.slice none 0 0).ownBlock):GrowIn E sz mk h wo k wo.heap.size (.slice A' k' c') (.int .i64 1) w':=by
 subst hk'
 have hk1:Kept (fun _=>False) wr w':=hk0.trans ⟨hg'.os,hg'.tape,hg'.output,hg'.size,fun b hb _=>hg'.block b hb (by simp[Value.ownBlock])⟩
 rcases own'.2 with⟨_,h0⟩|⟨g,cap,cur,hv,hb,hg,hnc,hcm,hcs,htake⟩
 ·cases h0
 injection hv with h1 _ h3
 subst h1
 subst h3
 refine⟨1,rfl,by omega,(hk1.cell (p:=⟨wo.heap.size,2,none⟩) hC (by simp)).trans e2,Nat.lt_of_lt_of_le hC hk1.size,.inr ⟨g,c',by rw[hn0],⟨(hK.trans hk1).mono (fun _ hf=>hf.elim),(fun hf=>by rw[hnl] at hf;cases hf),⟨cur,hg,hcs,by rw[hn0];omega,hcm,fun j hj=> ?_⟩,.inr (by omega)⟩⟩⟩
 rw[hn0] at hj
 have hj':j < sz:=by omega
 have e1:cur[j]?=(cur.toList.take ((0+1)*sz))[j]?:=by
  rw[List.getElem?_take_of_lt (by omega)]
  simp
 rw[e1,htake,Nat.mod_eq_of_lt hj']
 exact nrm_at hus j
theorem cell_set_ne {w:World}{g i j:Nat}{u:Value}(h:i≠j):(w.setCell ⟨g,i,none⟩ u).cell? ⟨g,j,none⟩=w.cell? ⟨g,j,none⟩:=
 World.cell?_setCell_other w ⟨g,i,none⟩ ⟨g,j,none⟩ u (fun e=>by injection e with _ e;omega)
theorem cell_set_far {w:World}{g i:Nat}{p:Addr}{u:Value}(h:p.block≠g):(w.setCell ⟨g,i,none⟩ u).cell? p=w.cell? p:=
 World.cell?_setCell_other w ⟨g,i,none⟩ p u (fun e=>h (by rw[← e]))
theorem heap_set_far {w:World}{g i b:Nat}{u:Value}(h:b≠g):(w.setCell ⟨g,i,none⟩ u).heap[b]?=w.heap[b]?:=Below.heap_setCell w ⟨g,i,none⟩ u b h
theorem BookAt.goff (hB:BookAt K HT E sz h w)(hE:E≠62)(hE':E≠HT){i:Nat}(hi:i < h.m)(hn:h.nl i=false):h.g i≠h.bk∧h.g i≠h.hb:=
 ⟨fun e=>hB.nbk hE ⟨i,hi,hn,e.symm⟩,fun e=>hB.nhb hE' ⟨i,hi,hn,e.symm⟩⟩
theorem BookAt.setLong {k:Nat}{A:Option Addr}{n c:Nat}(hH:HT≠62)(hE:E≠62)(hE':E≠HT)(hB:BookAt K HT E sz h w)(hk:k < h.m):BookAt K HT E sz h (w.setCell ⟨h.hb,k*3+1,none⟩ (.slice A n c)):=by
 obtain⟨H,hHb⟩:=hB.hblk
 obtain⟨B,hBb⟩:=hB.bblk
 refine⟨hB.many,(cell_set_far (p:=⟨h.bk,K,none⟩) (hB.ne hH)).trans hB.cellK,fun i hi=>(cell_set_ne (by omega)).trans (hB.l i hi),fun i hi=> ?_,fun i hi=>(cell_set_ne (by omega)).trans (hB.no i hi),
  ⟨B,(heap_set_far (hB.ne hH)).trans hBb⟩,⟨_,set_blk hHb _⟩,hB.small,hB.nils,fun i hi hni=> ?_,hB.apart⟩
 ·by_cases e:i=k
  ·subst e
   obtain⟨A0,n0,c0,h0⟩:=hB.lo i hi
   refine⟨A,n,c,?_⟩
   rw[cell_blk (set_blk hHb _)]
   rw[cell_blk hHb] at h0
   have hlt:i*3+1 < H.size:=by
    rcases Nat.lt_or_ge (i*3+1) H.size with hl|hl
    ·exact hl
    ·rw[Array.getElem?_eq_none hl] at h0;cases h0
   rw[Array.getElem?_setIfInBounds_self_of_lt hlt]
  ·obtain⟨A0,n0,c0,h0⟩:=hB.lo i hi
   exact⟨A0,n0,c0,(cell_set_ne (by omega)).trans h0⟩
 ·obtain⟨cur,e1,e2⟩:=hB.blk i hi hni
  exact⟨cur,(heap_set_far (hB.goff hE hE' hi hni).2).trans e1,e2⟩
theorem growAt_next {k L c:Nat}(hH:HT≠62)(hE:E≠62)(hE':E≠HT)(hg:GrowAt K HT E sz mk h w k wo)(hk:k < h.m)(hi:GrowInAt E sz mk h wo k 40 L c wi):
  GrowAt K HT E sz mk h w (k+1) (wi.setCell ⟨h.hb,k*3+1,none⟩ (.slice (some ⟨L,0,none⟩) (h.n k+40) c)):=by
 have hB:=hg.book
 have hd1: ¬(h.bk=h.g k∧h.nl k=false):=fun e=>(hB.goff hE hE' hk e.2).1 e.1.symm
 have hd2: ¬(h.hb=h.g k∧h.nl k=false):=fun e=>(hB.goff hE hE' hk e.2).2 e.1.symm
 have hmk: ∀i,i < h.m→Marked E sz mk h wi i (h.n i):=by
  intro i him
  by_cases e:i=k
  ·subst e;exact hi.marked
  ·intro hni
   obtain⟨cur,e1,e2,e3⟩:=hg.marks i him hni
   exact⟨cur,(hi.kept.block (h.g i) (lt_blk e1) (fun hd=>hB.apart i k him hk hni hd.2 e hd.1)).trans e1,e2,e3⟩
 have hBi:BookAt K HT E sz h wi:=hB.stay hi.kept hd1 hd2 fun i him hni=>by
  obtain⟨cur,e1,e2,_⟩:=hmk i him hni
  exact⟨cur,e1,e2⟩
 obtain⟨H,hHb⟩:=hBi.hblk
 have lne: ∀{L0:Nat} {cur:Array Value},wi.heap[L0]?=some (.cells cur E (0,0))→L0≠h.hb:=fun hl=>ne_type hl hHb hE'
 refine⟨?_,hBi.setLong hH hE hE' hk,fun j hj=> ?_,fun j hj=> ?_⟩
 ·exact(hg.kept.trans (hi.kept.mono fun b hb=> .inr ⟨k,hk,hb.2,hb.1⟩)).setCell (.inl (.inl rfl)) _
 ·intro hnj
  obtain⟨cur,e1,e2,e3⟩:=hmk j hj hnj
  exact⟨cur,(heap_set_far (hB.goff hE hE' hj hnj).2).trans e1,e2,e3⟩
 ·by_cases e:j=k
  ·subst e
   obtain⟨cur,l1,l2,l3,l4,l5⟩:=hi.long
   obtain⟨A0,n0,c0,h0⟩:=hBi.lo j hk
   rw[cell_blk hHb] at h0
   have hlt:j*3+1 < H.size:=by
    rcases Nat.lt_or_ge (j*3+1) H.size with hl|hl
    ·exact hl
    ·rw[Array.getElem?_eq_none hl] at h0;cases h0
   refine⟨L,c,cur,?_,(heap_set_far (lne l1)).trans l1,l2,l3,l4,l5,fun i him hne hni=> ?_⟩
   ·rw[cell_blk (set_blk hHb _),Array.getElem?_setIfInBounds_self_of_lt hlt]
   ·rcases hi.place with⟨e,_,en⟩|e
    ·rw[e];exact hB.apart j i hk him en hni (fun e=>hne e.symm)
    ·obtain⟨cu,e1,_⟩:=hg.marks i him hni
     have:=lt_blk e1
     omega
  ·obtain⟨L0,c0,cur,l0,l1,l2,l3,l4,l5,l6⟩:=hg.longs j (by omega)
   have hLk: ¬(L0=h.g k∧h.nl k=false):=fun hd=>l6 k hk (fun e'=>e e'.symm) hd.2 hd.1
   have l1':wi.heap[L0]?=some (.cells cur E (0,0)):=(hi.kept.block L0 (lt_blk l1) hLk).trans l1
   have l0':wi.cell? ⟨h.hb,j*3+1,none⟩=_:=(hi.kept.cell (p:=⟨h.hb,j*3+1,none⟩) hB.hlt hd2).trans l0
   exact⟨L0,c0,cur,(cell_set_ne (by omega)).trans l0',(heap_set_far (lne l1')).trans l1',l2,l3,l4,l5,l6⟩
def LookRel (h:Held)(w:World)(i3:Value)(wr:World):Prop:= ∃k:Nat,i3= .int .i64 (k:Int)∧k≤h.m∧Kept (fun _=>False) w wr
def LookIn (h:Held)(w:World)(k C:Nat)(LV:Value)(i5:Value)(wr:World):Prop:=
 ∃q:Nat,i5= .int .i64 (q:Int)∧q≤h.n k+40∧Kept (fun _=>False) w wr∧wr.cell? ⟨C,0,none⟩=some (.slice (h.a k) (h.n k) (h.c k))∧wr.cell? ⟨C,1,none⟩=some LV∧wr.cell? ⟨C,2,none⟩=some (.int .i64 (h.no k:Int))∧C < wr.heap.size
structure Ready (K HT E sz:Nat)(mk:Nat→List Value)(h:Held)(w:World):Prop where
 book:BookAt K HT E sz h w
 marks: ∀j,j < h.m→Marked E sz mk h w j (h.n j)
 longs: ∀j,j < h.m→LongAt E sz mk h w j
def Typed (w:World)(D:Nat→Prop)(Ts:List Nat):Prop:= ∀b,D b→b < w.heap.size→ ∃cur T,w.heap[b]?=some (.cells cur T (0,0))∧T∈Ts
theorem Typed.no {Ts:List Nat}(h:Typed w D Ts){b T:Nat}{cur:Array Value}(hb:w.heap[b]?=some (.cells cur T (0,0)))(hT:T∉Ts): ¬D b:=fun hd=>by
 obtain⟨c,T',e,hm⟩:=h b hd (lt_blk hb)
 rw[hb] at e
 injection e with e
 injection e with _ e
 exact hT (e▸hm)
theorem BookAt.far {Ts:List Nat}(hB:BookAt K HT E sz h w)(hk:Kept D w w')(hD:Typed w D Ts)(t1:62∉Ts)(t2:HT∉Ts)(t3:E∉Ts):BookAt K HT E sz h w':=by
 obtain⟨B,hBb⟩:=hB.bblk
 obtain⟨H,hHb⟩:=hB.hblk
 exact hB.stay hk (hD.no hBb t1) (hD.no hHb t2) fun i hi hn=>by
  obtain⟨cur,e1,e2,_⟩:=hB.blk i hi hn
  exact⟨cur,(hk.block _ (lt_blk e1) (hD.no e1 t3)).trans e1,e2⟩
theorem Marked.far {Ts:List Nat}{k q:Nat}(hm:Marked E sz mk h w k q)(hk:Kept D w w')(hD:Typed w D Ts)(t3:E∉Ts):Marked E sz mk h w' k q:=fun hn=>by
 obtain⟨cur,e1,e2,e3⟩:=hm hn
 exact⟨cur,(hk.block _ (lt_blk e1) (hD.no e1 t3)).trans e1,e2,e3⟩
theorem LongAt.far {Ts:List Nat}{j:Nat}(hm:LongAt E sz mk h w j)(hB:BookAt K HT E sz h w)(hk:Kept D w w')(hD:Typed w D Ts)(t2:HT∉Ts)(t3:E∉Ts):LongAt E sz mk h w' j:=by
 obtain⟨L,c,cur,l0,l1,r⟩:=hm
 obtain⟨H,hHb⟩:=hB.hblk
 exact⟨L,c,cur,(hk.cell (p:=⟨h.hb,j*3+1,none⟩) hB.hlt (hD.no hHb t2)).trans l0,(hk.block _ (lt_blk l1) (hD.no l1 t3)).trans l1,r⟩
theorem Ready.far {Ts:List Nat}(hR:Ready K HT E sz mk h w)(hk:Kept D w w')(hD:Typed w D Ts)(t1:62∉Ts)(t2:HT∉Ts)(t3:E∉Ts):Ready K HT E sz mk h w':=
 ⟨hR.book.far hk hD t1 t2 t3,fun j hj=>(hR.marks j hj).far hk hD t3,fun j hj=>(hR.longs j hj).far hR.book hk hD t2 t3⟩
theorem typed_no (w:World)(Ts:List Nat):Typed w (fun _=>False) Ts:=fun _ h=>h.elim
theorem BookAt.typedD (hB:BookAt K HT E sz h w):Typed w (h.D h.m) [E]:=fun b hd _=>by
 obtain⟨cur,e⟩:=hB.dtype hd
 exact⟨cur,E,e,by simp⟩
theorem BookAt.typedG (hB:BookAt K HT E sz h w):Typed w (fun b=>b=h.hb∨h.D h.m b) [HT,E]:=fun b hd _=>by
 rcases hd with rfl|hd
 ·obtain⟨H,e⟩:=hB.hblk
  exact⟨H,HT,e,by simp⟩
 ·obtain⟨cur,e⟩:=hB.dtype hd
  exact⟨cur,E,e,by simp⟩
structure Ent where
 A:Option Addr
 n:Nat
 c:Nat
 no:Nat
def entc (e:Ent):List Value:= [.slice e.A e.n e.c,.slice none 0 0,.int .i64 (e.no:Int)]
def zEnt:Ent:=⟨none,0,0,0⟩
def heldOf (bk hb cap:Nat)(es:List Ent):Held:=
 {bk:=bk,hb:=hb,cap:=cap,m:=es.length,g:=fun i=>((es.getD i zEnt).A.map Addr.block).getD 0,n:=fun i=>(es.getD i zEnt).n,c:=fun i=>(es.getD i zEnt).c,no:=fun i=>(es.getD i zEnt).no,nl:=fun i=>(es.getD i zEnt).A.isNone}
def Lone (E sz:Nat)(w:World)(e:Ent):Prop:=(e.A=none∧e.n=0∧e.c=0)∨ ∃g cur,e.A=some ⟨g,0,none⟩∧w.heap[g]?=some (.cells cur E (0,0))∧cur.size=e.c*sz∧e.n≤e.c∧e.c≤maxLen∧e.n≤1000000
theorem Lone.keep {e:Ent}(hl:Lone E sz w e)(hk:Kept D w w')(hd: ∀b,b < w.heap.size→ ¬D b):Lone E sz w' e:=by
 rcases hl with hl|⟨g,cur,h1,h2,r⟩
 ·exact .inl hl
 ·exact .inr ⟨g,cur,h1,(hk.block g (lt_blk h2) (hd g (lt_blk h2))).trans h2,r⟩
theorem book_of {bk base:Nat}{v:Value}{es:List Ent}(hcell:w.cell? ⟨bk,K,none⟩=some v)(hbb: ∃B,w.heap[bk]?=some (.cells B 62 (0,0)))(own:w.ownsRow base HT 3 v es.length (es.flatMap entc))(hp:0 < es.length)(h8:es.length≤1000)(hl: ∀e∈es,Lone E sz w e)
  (hap:es.Pairwise fun a b=> ∀x y,a.A=some x→b.A=some y→x.block≠y.block) (hno: ∀e∈es,e.no≤1000): ∃hb cap,base≤hb∧v= .slice (some ⟨hb,0,none⟩) es.length cap∧BookAt K HT E sz (heldOf bk hb cap es) w:=by
 rcases own.2 with⟨_,e⟩|⟨hb,cap,cur,hv,hbb',hH,hnc,hcm,hcs,htake⟩
 ·omega
 subst hv
 have hcell3: ∀i (h:i < es.length) j u,(entc es[i])[j]?=some u→w.cell? ⟨hb,i*3+j,none⟩=some u:=by
  intro i hi j u hu
  have hj:j < 3:=by
   have:=(List.getElem?_eq_some_iff.1 hu).1
   simpa [entc] using this
  have:=own.cells (g:=hb) rfl (i*3+j) u (by rw[flat_get (enc:=entc) (fun _=>rfl) es i hi j hj];exact hu)
  rwa [Addr.add_lit,Nat.zero_add] at this
 have hget: ∀i (h:i < es.length),es.getD i zEnt=es[i]:=fun i hi=>by rw[List.getD_eq_getElem?_getD,List.getElem?_eq_getElem hi];rfl
 have hone: ∀i (h:i < es.length),Lone E sz w es[i]:=fun i hi=>hl _ (List.getElem_mem hi)
 have haddr: ∀i (h:i < es.length),(heldOf bk hb cap es).a i=es[i].A:=by
  intro i hi
  have e:=hget i hi
  show(if (es.getD i zEnt).A.isNone then none else some (⟨((es.getD i zEnt).A.map Addr.block).getD 0,0,none⟩:Addr))=_
  rw[e]
  rcases hone i hi with⟨h1,_⟩|⟨g,cu,h1,_⟩ <;> rw[h1] <;> rfl
 refine⟨hb,cap,hbb',rfl,⟨h8,hcell,fun i hi=> ?_,fun i hi=>⟨none,0,0,hcell3 i hi 1 _ rfl⟩,fun i hi=> ?_,hbb,⟨cur,hH⟩,fun i hi=> ?_,fun i hi hn=> ?_,fun i hi hn=> ?_,fun i j hi hj h1 h2 hne=> ?_⟩⟩
 ·rw[haddr i hi]
  show w.cell? ⟨hb,i*3,none⟩=some (.slice es[i].A (es.getD i zEnt).n (es.getD i zEnt).c)
  rw[hget i hi]
  exact hcell3 i hi 0 _ rfl
 ·show w.cell? ⟨hb,i*3+2,none⟩=some (.int .i64 ((es.getD i zEnt).no:Int))
  rw[hget i hi]
  exact hcell3 i hi 2 _ rfl
 ·show(es.getD i zEnt).n≤1000000∧(es.getD i zEnt).no≤1000
  rw[hget i hi]
  refine⟨?_,hno _ (List.getElem_mem hi)⟩
  rcases hone i hi with⟨_,h2,_⟩|⟨g,cu,_,_,_,_,_,h6⟩ <;> omega
 ·show(es.getD i zEnt).n=0∧(es.getD i zEnt).c=0
  have hn:(es.getD i zEnt).A.isNone=true:=hn
  rw[hget i hi] at hn ⊢
  rcases hone i hi with⟨_,h2,h3⟩|⟨g,cu,h1,_⟩
  ·exact⟨h2,h3⟩
  ·rw[h1] at hn;cases hn
 ·have hn:(es.getD i zEnt).A.isNone=false:=hn
  show ∃cur,w.heap[((es.getD i zEnt).A.map Addr.block).getD 0]?=some (.cells cur E (0,0))∧cur.size=(es.getD i zEnt).c*sz∧(es.getD i zEnt).n≤(es.getD i zEnt).c∧(es.getD i zEnt).c≤maxLen
  rw[hget i hi] at hn ⊢
  rcases hone i hi with⟨h1,_⟩|⟨g,cu,h1,h2,h3,h4,h5,_⟩
  ·rw[h1] at hn;cases hn
  ·rw[h1];exact⟨cu,h2,h3,h4,h5⟩
 ·have h1:(es.getD i zEnt).A.isNone=false:=h1
  have h2:(es.getD j zEnt).A.isNone=false:=h2
  show((es.getD i zEnt).A.map Addr.block).getD 0≠((es.getD j zEnt).A.map Addr.block).getD 0
  rw[hget i hi] at h1 ⊢
  rw[hget j hj] at h2 ⊢
  rcases hone i hi with⟨g1,_⟩|⟨g,cu,g1,_⟩
  ·rw[g1] at h1;cases h1
  rcases hone j hj with⟨g2,_⟩|⟨g',cu',g2,_⟩
  ·rw[g2] at h2;cases h2
  rw[List.pairwise_iff_getElem] at hap
  rcases Nat.lt_or_gt_of_ne hne with hij|hij
  ·have:=hap i j hi hj hij _ _ g1 g2
   rw[g1,g2]
   exact this
  ·have:=hap j i hj hi hij _ _ g2 g1
   rw[g1,g2]
   exact this.symm
end
end Go.Proofs.YtphklakjadchmaaGreatDoor
