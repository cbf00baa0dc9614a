/- Words for slices whose elements take one cell each: what a slice reads as, that it is kept where old memory is kept, what a slice of the call's own reads as, cuts and appends. No condition but those that each line names. -/
/- Worlds that differ from an earlier one in named blocks and new ones alone. No condition. -/
/- Words for slices whose elements take several cells each: what a slice reads as, that it is kept where old memory is kept, what a slice of the call's own reads as, cuts and appends. No condition but those that each line names. -/
import Derived.Below
import Derived.Laws.OwnMore
import Derived.Laws.Slices
import Derived.Laws.NewBlocks
import Derived.Deep.Draws
import Derived.Lib.Hide
import Derived.Laws.AppendOwn
import Derived.OwnWalk
namespace Go.Proofs.YtmejhedegmjboaaGreat
open Go.RowKit
structure Rd {α:Type}(enc:α→Value)(w:World)(B:Nat)(A:Option Addr)(n c:Nat)(l:List α):Prop where
 len:l.length=n
 cap:n≤c
 top:c≤maxLen
 none0:A=none→c=0
 spot:0 < n→ ∃b o,A=some ⟨b,o,none⟩∧b < B∧ ∀j (h:j < l.length),w.cell? ⟨b,o+j,none⟩=some (enc l[j])
section
variable {α:Type} {enc:α→Value} {w w':World} {B B':Nat} {A:Option Addr} {n c:Nat} {l:List α}
theorem Rd.nil (w:World)(B:Nat):Rd enc w B none 0 0 []:=⟨rfl,Nat.le_refl _,Nat.zero_le _,fun _=>rfl,fun h=>absurd h (by omega)⟩
theorem Rd.keep (h:Rd enc w B A n c l)(hk: ∀k,k < B→w'.heap[k]?=w.heap[k]?):Rd enc w' B A n c l:=
 ⟨h.len,h.cap,h.top,h.none0,fun hn=>by
  obtain⟨b,o,e,hb,hc⟩:=h.spot hn
  exact⟨b,o,e,hb,fun j hj=>(World.cell?_of_block (w:=w) (w':=w') (a:=⟨b,o+j,none⟩) (hk b hb)).trans (hc j hj)⟩⟩
theorem Rd.below (h:Rd enc w B A n c l)(hb:Below B w w'):Rd enc w' B A n c l:=h.keep hb.block
theorem Rd.mono (h:Rd enc w B A n c l)(hB:B≤B'):Rd enc w B' A n c l:=
 ⟨h.len,h.cap,h.top,h.none0,fun hn=>by
  obtain⟨b,o,e,hb,hc⟩:=h.spot hn
  exact⟨b,o,e,by omega,hc⟩⟩
theorem Rd.at_size (h:Rd enc w B A n c l)(hB:B≤w.heap.size)(hb:Below w.heap.size w w'):Rd enc w' w'.heap.size A n c l:=
 ((h.mono hB).below hb).mono hb.size
theorem own_len {E:TypeId}{base:Nat}{v:Value}(h:w.ownsRow base E 1 v n (l.map enc)):l.length=n:=by
 have:=h.1
 rw[List.length_map] at this
 omega
theorem own_form {E:TypeId}{base:Nat}{v:Value}{xs:List Value}(h:w.ownsRow base E 1 v n xs): ∃A c,v= .slice A n c:=by
 rcases h.2 with⟨rfl,rfl⟩|⟨g,cap,cur,rfl,_⟩
 ·exact⟨none,0,rfl⟩
 ·exact⟨_,_,rfl⟩
theorem Rd.of_own {E:TypeId}{base:Nat}(h:w.ownsRow base E 1 (.slice A n c) n (l.map enc)):Rd enc w w.heap.size A n c l:=by
 have hl:=own_len h
 rcases h.2 with⟨hv,rfl⟩|⟨g,cap,cur,hv,hb,hg,hnc,hcm,hcs,htake⟩
 ·injection hv with h1 h2 h3
  subst h3
  exact⟨hl,Nat.le_refl _,Nat.zero_le _,fun _=>rfl,fun h=>absurd h (by omega)⟩
 ·injection hv with h1 h2 h3
  subst h1
  subst h3
  refine⟨hl,hnc,hcm,(fun h=>by cases h),fun _=>⟨g,0,rfl,(Array.getElem?_eq_some_iff.1 hg).1,fun j hj=> ?_⟩⟩
  have:=h.cells (g:=g) rfl j (enc l[j]) (by simp[hj])
  simpa [Addr.add_lit] using this
theorem Rd.cells {b o:Nat}(h: ∀j (h:j < l.length),w.cell? ⟨b,o+j,none⟩=some (enc l[j])):
  ∀j u,(l.map enc)[j]?=some u→w.cell? ((⟨b,o,none⟩:Addr).add j)=some u:=by
 intro j u hu
 rw[List.getElem?_map] at hu
 rcases Nat.lt_or_ge j l.length with hj|hj
 ·rw[List.getElem?_eq_getElem hj] at hu
  injection hu with hu
  rw[Addr.add_lit, ← hu]
  exact h j hj
 ·rw[List.getElem?_eq_none hj] at hu
  cases hu
theorem map_one (h1: ∀x,(enc x).oneCell'=true)(l:List α): ∀u∈l.map enc,u.oneCell'=true:=by
 intro u hu
 obtain⟨x,_,rfl⟩:=List.mem_map.1 hu
 exact h1 x
theorem Rd.new (w:World)(cs:Array Value)(e:TypeId)(n:Nat)(l:List α)(hcs:cs.toList=l.map enc)(hn:l.length=n)(hm:n≤maxLen):
  Rd enc (w.alloc (.cells cs e)) (w.alloc (.cells cs e)).heap.size (some ⟨w.heap.size,0,none⟩) n n l:=by
 refine⟨hn,Nat.le_refl _,hm,(fun h=>by cases h),fun _=>⟨w.heap.size,0,rfl,by simp,fun j hj=> ?_⟩⟩
 rw[Nat.zero_add,cell_of_row _ w.heap.size j cs e (0,0) (heap_alloc_new w _), ← Array.getElem?_toList,hcs]
 simp[hj]
end
theorem wp_append_rd {α:Type}{enc:α→Value}{P:Program}(w:World){o:Oper}{a:Act}{K:Act→World→Prop}{Q:Exit→Act→World→Prop}(s x:Operand)(t:TypeId)
  (ho:o.op= .call {callee:= .builtin .append,args:= #[s,x],argTypes:= #[t,t]})
  (base:Nat) (e:TypeId) (i:TypeInfo) (z:Value) (by1:Nat) (ht:P.underlying t=some (.slice e)) (hi:P.info? e=some i) (hz:i.zero=some z) (hsize:i.size=1) (hby:i.bytes=by1) (hzs:z.cells.size=1) (h1: ∀x,(enc x).oneCell'=true)
  (v:Value) (n:Nat) (bs:List α) (hs:a.eval s=v) (hown:w.ownsRow base e 1 v n (bs.map enc))
  (B:Nat) (A:Option Addr) (m c:Nat) (ms:List α) (hx:a.eval x= .slice A m c) (hr:Rd enc w B A m c ms) (hmax:n+m≤maxLen) (hb:(n+m)*by1≤140737488355328) (hbase:base≤w.heap.size)
  (h: ∀A' k c' w',Hid (k=n+m)→w'.ownsRow base e 1 (.slice A' k c') k ((bs++ms).map enc)→w.grownBy w' v.ownBlock→(∀g,(Value.slice A' k c').ownBlock=some g→base≤g)→K (a.put o.dst (.slice A' k c')) w'):
  o.wp P a w K Q:=by
 have key: ∃v' w',(Builtin.append_ #[t,t] o.type #[v,.slice A m c]).run P w= .ok v' w'∧w'.ownsRow base e 1 v' (n+m) ((bs++ms).map enc)∧w.grownBy w' v.ownBlock:=by
  rcases A with _|ad
  ·have hc0:=hr.none0 rfl
   have hm0:m=0:=by have:=hr.cap;omega
   subst hc0
   subst hm0
   have hms:ms= []:=List.eq_nil_of_length_eq_zero hr.len
   subst hms
   refine⟨v,w,run_append_owned_none (P:=P) w base t o.type e i 1 ht hi v n _ hown,?_,⟨rfl,rfl,rfl,Nat.le_refl _,fun _ _ _=>rfl⟩⟩
   simpa using hown
  ·have hcells: ∀j u,(ms.map enc)[j]?=some u→w.cell? (ad.add j)=some u:=by
    rcases Nat.eq_zero_or_pos m with h0|h0
    ·have hms:ms= []:=List.eq_nil_of_length_eq_zero (by rw[hr.len,h0])
     subst hms
     intro j u hu
     simp at hu
    ·obtain⟨b,q,hA,_,hc⟩:=hr.spot h0
     injection hA with hA
     subst hA
     exact Rd.cells hc
   obtain⟨v',w',hrun,h2,h3,_⟩:=run_append_own (P:=P) w base t o.type e i z 1 by1 ht hi hz hsize hby hzs (by decide) v n _ hown ad m c _ (by rw[List.length_map,hr.len,Nat.mul_one]) hcells (map_one h1 ms) hmax hb hbase
   exact⟨v',w',hrun,by rw[List.map_append];exact h2,h3⟩
 obtain⟨v',w',hrun,h2,h3⟩:=key
 obtain⟨A',c',rfl⟩:=own_form h2
 unfold Oper.wp execOp
 simp only[ho,resolve,invoke,builtin,Sem.run_bind,Sem.run_pure,Result.andThen_ok,List.map_toArray,List.map_cons,List.map_nil,hs,hx,hrun]
 exact h A' (n+m) c' w' rfl h2 h3 fun g hg=>(h2.lt g hg).1
def cutAt (A:Option Addr)(lo c:Nat):Option Addr:=if c=lo then A else A.map (·.add lo)
section
variable {α:Type} {enc:α→Value}
theorem Rd.cut {w:World}{B:Nat}{A:Option Addr}{n c:Nat}{l:List α}(h:Rd enc w B A n c l)(lo hi:Nat)(h1:lo≤hi)(h2:hi≤n):Rd enc w B (cutAt A lo c) (hi - lo) (c - lo) ((l.drop lo).take (hi - lo)):=by
 have hc:=h.cap
 have ht:=h.top
 have hl:=h.len
 refine⟨by rw[List.length_take,List.length_drop];omega,by omega,by omega,fun hn=> ?_,fun hn=> ?_⟩
 ·unfold cutAt at hn
  split at hn
  ·omega
  ·rcases A with _|ad
   ·have:=h.none0 rfl
    omega
   ·cases hn
 ·obtain⟨b,o,rfl,hb,hcell⟩:=h.spot (by omega)
  have hne: ¬c=lo:=by omega
  refine⟨b,o+lo,by simp[cutAt,hne,Addr.add_lit],hb,fun j hj=> ?_⟩
  rw[List.length_take,List.length_drop] at hj
  rw[Nat.add_assoc,hcell (lo+j) (by omega)]
  simp
variable {P:Program} {w:World} {B:Nat} {A:Option Addr} {n c:Nat} {l:List α} (t e:TypeId) (ht:P.underlying t=some (.slice e)) (hz: ∀w,(Go.sizeOf e).run P w= .ok 1 w)
include ht hz
theorem rd_slice_h (h:Rd enc w B A n c l)(hi:Int)(h0:0≤hi)(h1:hi≤(n:Int)):
  ∃A' n' c',(∀W,(Instr.slice t (.slice A n c) none (some (.int .i64 hi)) none).run P W= .ok (.slice A' n' c') W)∧Rd enc w B A' n' c' (l.take hi.toNat):=by
 have hc:=h.cap
 have hcut:=h.cut 0 hi.toNat (by omega) (by omega)
 rw[List.drop_zero,Nat.sub_zero] at hcut
 refine⟨_,_,_,fun W=> ?_,hcut⟩
 have he:P.elem t=e:=by simp[Program.elem,ht]
 have ht':P.underlying t=some (.slice (P.elem t)):=by rw[he];exact ht
 rw[run_slice_h W t _ _ _ ht' .i64 _ (by omega) (by omega),he,hz]
 simp[Result.andThen,sliced,cutAt]
end
theorem one_src (w:World)(u:Value)(e:TypeId): ∀j x,[u][j]?=some x→(w.alloc (.cells #[u] e)).cell? ((⟨w.heap.size,0,none⟩:Addr).add j)=some x:=by
 intro j x hx
 rcases j with _|j
 ·simp only[List.getElem?_cons_zero,Option.some.injEq] at hx
  subst hx
  rw[Addr.add_lit,World.cell?_alloc_at _ _ _ _ rfl]
  rfl
 ·simp at hx
theorem one_one {u:Value}(h:u.oneCell'=true): ∀x∈ [u],x.oneCell'=true:=by
 intro x hx
 simp only[List.mem_singleton] at hx
 subst hx
 exact h
theorem own_keep {w w':World}{base n:Nat}{E:TypeId}{v:Value}{xs:List Value}(h:w.ownsRow base E 1 v n xs)(hb:Below w.heap.size w w'):w'.ownsRow base E 1 v n xs:=by
 refine⟨h.1,?_⟩
 rcases h.2 with hn|⟨g,cap,cur,hv,hg,hgg,r⟩
 ·exact .inl hn
 ·exact .inr ⟨g,cap,cur,hv,hg,(hb.block g (Array.getElem?_eq_some_iff.1 hgg).1).trans hgg,r⟩
structure Kept (D:Nat→Prop)(w w':World):Prop where
 os:w'.os=w.os
 tape:w'.tape=w.tape
 output:w'.output=w.output
 size:w.heap.size≤w'.heap.size
 block: ∀b,b < w.heap.size→ ¬D b→w'.heap[b]?=w.heap[b]?
section
variable {D D':Nat→Prop} {a w w':World}
theorem Kept.refl (D:Nat→Prop)(w:World):Kept D w w:=⟨rfl,rfl,rfl,Nat.le_refl _,fun _ _ _=>rfl⟩
theorem Kept.mono (h:Kept D a w)(hD: ∀b,D b→D' b):Kept D' a w:=⟨h.os,h.tape,h.output,h.size,fun b hb hn=>h.block b hb fun hd=>hn (hD b hd)⟩
theorem Kept.trans (h:Kept D a w)(k:Kept D w w'):Kept D a w':=
 ⟨k.os.trans h.os,k.tape.trans h.tape,k.output.trans h.output,Nat.le_trans h.size k.size,fun b hb hn=>(k.block b (Nat.lt_of_lt_of_le hb h.size) hn).trans (h.block b hb hn)⟩
theorem Kept.drew (h:Kept D a w):Kept D a w.drew:=⟨h.os,h.tape,h.output,h.size,h.block⟩
theorem Kept.alloc (h:Kept D a w)(o:Obj):Kept D a (w.alloc o):=
 ⟨h.os,h.tape,h.output,Nat.le_trans h.size (by simp),fun b hb hn=>(Below.heap_alloc w o b (Nat.lt_of_lt_of_le hb h.size)).trans (h.block b hb hn)⟩
theorem Kept.setCell (h:Kept D a w){p:Addr}(hp:D p.block∨a.heap.size≤p.block)(u:Value):Kept D a (w.setCell p u):=
 ⟨h.os,h.tape,h.output,by simpa [World.setCell] using h.size,fun b hb hn=>(Below.heap_setCell w p u b (by
  rintro rfl
  rcases hp with hp|hp
  ·exact hn hp
  ·omega)).trans (h.block b hb hn)⟩
theorem Kept.cell (h:Kept D w w'){p:Addr}(hp:p.block < w.heap.size)(hn: ¬D p.block):w'.cell? p=w.cell? p:=World.cell?_of_block (h.block p.block hp hn)
theorem Kept.below {B:Nat}(h:Kept D w w')(hB:B≤w.heap.size)(hD: ∀b,D b→B≤b):Below B w w':=
 ⟨h.os,h.tape,h.output,h.size,fun b hb=>h.block b (Nat.lt_of_lt_of_le hb hB) fun hd=>by have:=hD b hd;omega⟩
theorem Kept.of_below (h:Below w.heap.size w w'):Kept D w w':=⟨h.os,h.tape,h.output,h.size,fun b hb _=>h.block b hb⟩
end
theorem cell_blk {w:World}{g i:Nat}{cs:Array Value}{t:TypeId}(h:w.heap[g]?=some (.cells cs t (0,0))):w.cell? ⟨g,i,none⟩=cs[i]?:=cell_of_row w g i cs t (0,0) h
theorem frozen_blk {w:World}{g i:Nat}{cs:Array Value}{t:TypeId}(h:w.heap[g]?=some (.cells cs t (0,0))):w.frozen? ⟨g,i,none⟩=false:=by
 simp[World.frozen?,h]
theorem set_blk {w:World}{g i:Nat}{cs:Array Value}{t:TypeId}(h:w.heap[g]?=some (.cells cs t (0,0)))(u:Value):(w.setCell ⟨g,i,none⟩ u).heap[g]?=some (.cells (cs.setIfInBounds i u) t (0,0)):=by
 simp[World.setCell,Array.getElem?_modify,h]
theorem lt_blk {w:World}{g:Nat}{o:Obj}(h:w.heap[g]?=some o):g < w.heap.size:=(Array.getElem?_eq_some_iff.1 h).1
structure Rs {α:Type}(enc:α→List Value)(sz:Nat)(w:World)(B:Nat)(A:Option Addr)(n c:Nat)(l:List α):Prop where
 len:l.length=n
 cap:n≤c
 top:c≤maxLen
 none0:A=none→c=0
 spot:0 < n→ ∃b o,A=some ⟨b,o,none⟩∧b < B∧ ∀j (h:j < l.length) i u,(enc l[j])[i]?=some u→w.cell? ⟨b,o+j*sz+i,none⟩=some u
section
variable {α:Type} {enc:α→List Value} {sz:Nat} {w w':World} {B B':Nat} {A:Option Addr} {n c:Nat} {l:List α}
theorem Rs.nil (w:World)(B:Nat):Rs enc sz w B none 0 0 []:=⟨rfl,Nat.le_refl _,Nat.zero_le _,fun _=>rfl,fun h=>absurd h (by omega)⟩
theorem Rs.keep (h:Rs enc sz w B A n c l)(hk: ∀k,k < B→w'.heap[k]?=w.heap[k]?):Rs enc sz w' B A n c l:=
 ⟨h.len,h.cap,h.top,h.none0,fun hn=>by
  obtain⟨b,o,e,hb,hc⟩:=h.spot hn
  exact⟨b,o,e,hb,fun j hj i u hu=>(World.cell?_of_block (w:=w) (w':=w') (a:=⟨b,o+j*sz+i,none⟩) (hk b hb)).trans (hc j hj i u hu)⟩⟩
theorem Rs.below (h:Rs enc sz w B A n c l)(hb:Below B w w'):Rs enc sz w' B A n c l:=h.keep hb.block
theorem Rs.mono (h:Rs enc sz w B A n c l)(hB:B≤B'):Rs enc sz w B' A n c l:=
 ⟨h.len,h.cap,h.top,h.none0,fun hn=>by
  obtain⟨b,o,e,hb,hc⟩:=h.spot hn
  exact⟨b,o,e,by omega,hc⟩⟩
theorem Rs.at_size (h:Rs enc sz w B A n c l)(hB:B≤w.heap.size)(hb:Below w.heap.size w w'):Rs enc sz w' w'.heap.size A n c l:=
 ((h.mono hB).below hb).mono hb.size
theorem flat_len (he: ∀x,(enc x).length=sz): ∀l:List α,(l.flatMap enc).length=l.length*sz
 | []=>by simp
 |x::l=>by
  rw[List.flatMap_cons,List.length_append,he,flat_len he l,List.length_cons,Nat.add_mul]
  omega
theorem flat_get (he: ∀x,(enc x).length=sz): ∀(l:List α) (j:Nat) (h:j < l.length) (i:Nat),i < sz→(l.flatMap enc)[j*sz+i]?=(enc l[j])[i]?
 | [],j,h,_,_=>by simp at h
 |x::l,0,_,i,hi=>by
  rw[List.flatMap_cons,Nat.zero_mul,Nat.zero_add,List.getElem?_append_left (by rw[he];exact hi)]
  rfl
 |x::l,j+1,h,i,hi=>by
  have:=flat_get he l j (by simpa using h) i hi
  rw[List.flatMap_cons,List.getElem?_append_right (by rw[he,Nat.add_mul];omega),he,show(j+1)*sz+i - sz=j*sz+i by rw[Nat.add_mul];omega,this]
  simp
theorem Rs.cells (he: ∀x,(enc x).length=sz)(hsz:0 < sz){b o:Nat}(hc: ∀j (h:j < l.length) i u,(enc l[j])[i]?=some u→w.cell? ⟨b,o+j*sz+i,none⟩=some u):
  ∀j u,(l.flatMap enc)[j]?=some u→w.cell? ((⟨b,o,none⟩:Addr).add j)=some u:=by
 intro j u hu
 have hj:j < l.length*sz:=by
  rcases Nat.lt_or_ge j (l.flatMap enc).length with h|h
  ·rw[flat_len he] at h
   exact h
  ·rw[List.getElem?_eq_none h] at hu
   cases hu
 have hq:j / sz < l.length:=Nat.div_lt_of_lt_mul (by rw[Nat.mul_comm];exact hj)
 have hr:j%sz < sz:=Nat.mod_lt _ hsz
 have e:j / sz*sz+j%sz=j:=by rw[Nat.mul_comm];exact Nat.div_add_mod j sz
 have:=flat_get he l (j / sz) hq (j%sz) hr
 rw[e,hu] at this
 have:=hc (j / sz) hq (j%sz) u this.symm
 rw[Addr.add_lit]
 rwa [Nat.add_assoc,e] at this
theorem rs_own_len {E:TypeId}{base:Nat}{v:Value}(he: ∀x,(enc x).length=sz)(hsz:0 < sz)(h:w.ownsRow base E sz v n (l.flatMap enc)):l.length=n:=by
 have:=h.1
 rw[flat_len he] at this
 exact Nat.eq_of_mul_eq_mul_right hsz this
theorem rs_own_form {E:TypeId}{base:Nat}{v:Value}{xs:List Value}(h:w.ownsRow base E sz v n xs): ∃A c,v= .slice A n c:=by
 rcases h.2 with⟨rfl,rfl⟩|⟨g,cap,cur,rfl,_⟩
 ·exact⟨none,0,rfl⟩
 ·exact⟨_,_,rfl⟩
theorem Rs.of_own {E:TypeId}{base:Nat}(he: ∀x,(enc x).length=sz)(hsz:0 < sz)(h:w.ownsRow base E sz (.slice A n c) n (l.flatMap enc)):Rs enc sz w w.heap.size A n c l:=by
 have hl:=rs_own_len he hsz h
 rcases h.2 with⟨hv,rfl⟩|⟨g,cap,cur,hv,hb,hg,hnc,hcm,hcs,htake⟩
 ·injection hv with h1 h2 h3
  subst h3
  exact⟨hl,Nat.le_refl _,Nat.zero_le _,fun _=>rfl,fun h=>absurd h (by omega)⟩
 ·injection hv with h1 h2 h3
  subst h1
  subst h3
  refine⟨hl,hnc,hcm,(fun h=>by cases h),fun _=>⟨g,0,rfl,(Array.getElem?_eq_some_iff.1 hg).1,fun j hj i u hu=> ?_⟩⟩
  have hi:i < sz:=by
   rcases Nat.lt_or_ge i sz with h|h
   ·exact h
   ·rw[List.getElem?_eq_none (by rw[he];exact h)] at hu
    cases hu
  have:=h.cells (g:=g) rfl (j*sz+i) u (by rw[flat_get he l j hj i hi];exact hu)
  rw[Addr.add_lit, ← Nat.add_assoc] at this
  exact this
theorem Rs.of_blk {g:Nat}{cs:Array Value}{E:TypeId}(he: ∀x,(enc x).length=sz)(hg:w.heap[g]?=some (.cells cs E (0,0)))(hcs: ∃tl,cs.toList=l.flatMap enc++tl)(hl:l.length=n)(hc:n≤c)(hm:c≤maxLen):
  Rs enc sz w w.heap.size (some ⟨g,0,none⟩) n c l:=by
 refine⟨hl,hc,hm,(fun h=>by cases h),fun _=>⟨g,0,rfl,lt_blk hg,fun j hj i u hu=> ?_⟩⟩
 have hi:i < sz:=by
  rcases Nat.lt_or_ge i sz with h|h
  ·exact h
  ·rw[List.getElem?_eq_none (by rw[he];exact h)] at hu
   cases hu
 obtain⟨tl,hcs⟩:=hcs
 rw[cell_blk hg, ← Array.getElem?_toList,hcs,Nat.zero_add,List.getElem?_append_left,flat_get he l j hj i hi]
 ·exact hu
 ·rw[flat_len he]
  calc j*sz+i < j*sz+sz:=by omega
   _=(j+1)*sz:=by rw[Nat.add_mul];omega
   _≤l.length*sz:=Nat.mul_le_mul_right _ hj
variable {P:Program} (t e:TypeId) (ht:P.underlying t=some (.slice e)) (hz: ∀w,(Go.sizeOf e).run P w= .ok sz w)
include ht hz
end
structure Appended (w w':World)(base:Nat)(e:TypeId)(sz:Nat)(v v':Value)(n:Nat)(xs:List Value):Prop where
 own:w'.ownsRow base e sz v' n xs
 grown:w.grownBy w' v.ownBlock
 place:v'.ownBlock=v.ownBlock∨ ∃g,v'.ownBlock=some g∧w.heap.size≤g
theorem Appended.apart {w w':World}{base:Nat}{e:TypeId}{sz:Nat}{v v':Value}{n:Nat}{xs:List Value}(h:Appended w w' base e sz v v' n xs){q:Nat}(hq:q < w.heap.size)(hv:v.ownBlock≠some q):v'.ownBlock≠some q:=by
 rcases h.place with e|⟨g,e,hg⟩
 ·rw[e];exact hv
 ·rw[e];intro h;injection h with h;omega
theorem run_append_both {P:Program}(w:World)(base:Nat)(t s ty e:TypeId)(i:TypeInfo)(z:Value)(sz bytes:Nat)(ht:P.underlying t=some (.slice e))(hi:P.info? e=some i)(hz:i.zero=some z)(hsize:i.size=sz)(hby:i.bytes=bytes)(hzs:z.cells.size=sz)(hsz:0 < sz)
  (v:Value) (n:Nat) (xs:List Value) (hown:w.ownsRow base e sz v n xs) (a:Addr) (m c:Nat) (news:List Value) (hl:news.length=m*sz) (hnews: ∀j u,news[j]?=some u→w.cell? (a.add j)=some u) (h1: ∀u∈news,u.oneCell'=true)
  (h63:n+m≤maxLen) (hbytes:(n+m)*bytes≤140737488355328) (hbase:base≤w.heap.size) (hst:(Builtin.append_ #[t,s] ty #[v,.slice (some a) m c]).run P w=(Builtin.append_ #[t,t] ty #[v,.slice (some a) m c]).run P w):
  ∃v' w',(Builtin.append_ #[t,s] ty #[v,.slice (some a) m c]).run P w= .ok v' w'∧Appended w w' base e sz v v' (n+m) (xs++news):=by
 rw[hst]
 rcases hown.2 with⟨rfl,rfl⟩|⟨g,cap,cur,rfl,hb,hg,hnc,hcm,hcs,htake⟩
 ·have hxs:xs= []:=List.eq_nil_of_length_eq_zero (by rw[hown.1];omega)
  subst hxs
  obtain⟨v',w',hrun,h2,h3,_⟩:=run_append_own (P:=P) w w.heap.size t ty e i z sz bytes ht hi hz hsize hby hzs hsz (.slice none 0 0) 0 [] (World.ownsRow_nil w _ e sz) a m c news hl hnews h1 h63 hbytes (Nat.le_refl _)
  refine⟨v',w',hrun,⟨⟨h2.1,?_⟩,h3,?_⟩⟩
  ·rcases h2.2 with h|⟨g,cap,cur,hv,hb,r⟩
   ·exact .inl h
   ·exact .inr ⟨g,cap,cur,hv,Nat.le_trans hbase hb,r⟩
  ·rcases h2.2 with⟨rfl,_⟩|⟨g,cap,cur,rfl,hb,r⟩
   ·exact .inl rfl
   ·exact .inr ⟨g,rfl,hb⟩
 ·subst hsize
  subst hby
  have hcl:(cur.toList.take (n*i.size)).length=n*i.size:=by rw[htake];exact hown.1
  by_cases hr:n+m≤cap
  ·have hfit:n*i.size+news.length≤cur.size:=by rw[hl,hcs, ← Nat.add_mul];exact Nat.mul_le_mul_right _ hr
   have hrun:=run_append_room (P:=P) w t ty e i ht hi g n cap cur hg a m c news hl hnews h1 hr hfit
   refine⟨_,_,hrun,⟨⟨by rw[List.length_append,hown.1,hl,Nat.add_mul],.inr ⟨g,cap,_,rfl,hb,setRow_heap w g cur _ e _ hg,hr,hcm,?_,?_⟩⟩,⟨rfl,rfl,rfl,by simp,fun k _ hk=>setRow_other w g k _ (fun e=>hk (by rw[e];rfl))⟩,.inl rfl⟩⟩
   ·simp only[List.size_toArray,List.length_append,List.length_drop,hcl,Array.length_toList]
    omega
   ·rw[htake,List.take_append_of_le_length (by rw[List.length_append,hown.1,hl, ← Nat.add_mul];exact Nat.le_refl _),List.take_of_length_le (by rw[List.length_append,hown.1,hl, ← Nat.add_mul];exact Nat.le_refl _)]
  ·have holds: ∀j u,xs[j]?=some u→w.cell? ((⟨g,0,none⟩:Addr).add j)=some u:=fun j u hu=>hown.cells (g:=g) rfl j u hu
   have hmx:n+m≤9223372036854775807:=by simp only[maxLen] at h63;omega
   have hrun:=run_append_grow (P:=P) w t ty e i z ht hi hz ⟨g,0,none⟩ n cap xs hown.1 holds a m c news hl hnews (by omega) (by omega) (growslice_fits (by omega) (by omega))
   have hge:=grownCap_ge w (n+m) cap e
   have hle:=grownCap_le_maxLen w (n+m) cap e h63
   refine⟨_,_,hrun,⟨⟨by rw[List.length_append,hown.1,hl,Nat.add_mul],.inr ⟨w.heap.size,_,_,rfl,hbase,heap_alloc_new w.drew _,hge,hle,?_,?_⟩⟩,⟨rfl,rfl,rfl,by simp,fun k hk _=>heap_alloc_old w.drew _ k hk⟩,.inr ⟨_,rfl,Nat.le_refl _⟩⟩⟩
   ·simp only[Array.size_append,List.size_toArray,size_zeroCells,hzs,hown.1,hl]
    rw[← Nat.add_mul, ← Nat.add_mul]
    congr 1
    omega
   ·have hlen:(xs++news).length=(n+m)*i.size:=by rw[List.length_append,hown.1,hl,Nat.add_mul]
    rw[Array.toList_append,Array.toList_append,List.take_append_of_le_length (by rw[← hlen];simp),List.take_of_length_le (by rw[← hlen];simp)]
end Go.Proofs.YtmejhedegmjboaaGreat
