/- Where what stands, as data: the sides of nodes, the spots of a body, bodies whose terms are others. No condition. -/
/- BelowS; Finder: merged. -/
import Derived.Test.YtmejhedegmjboaaGreatRepS
import Derived.Test.YtmejhedegmjboaaGreatTerms
namespace Go.Proofs.YtmejhedegmjboaaGreat
def turnS (s:Nat):Nat:=if s=0 then 1 else if s=1 then 0 else 2
theorem turn_le (s:Nat):turnS s≤2:=by unfold turnS;split <;> (try split) <;> omega
def belowS (x:Nd)(s:Nat):List Nat:=if x.k=4 then [2] else if x.k=5 then [turnS s,s] else List.replicate x.n.toNat s
theorem below_len {x:Nd}(s:Nat)(h:x.may=true):(belowS x s).length=x.n.toNat:=by
 unfold Nd.may at h
 unfold belowS
 by_cases h4:x.k=4
 ·rw[if_neg (by omega),if_neg (by omega),if_neg (by omega),if_pos h4] at h
  simp at h
  rw[if_pos h4,h.1.2]
  rfl
 by_cases h5:x.k=5
 ·rw[if_neg (by omega),if_neg (by omega),if_neg (by omega),if_neg h4,if_pos h5] at h
  simp at h
  rw[if_neg h4,if_pos h5,h.2]
  rfl
 rw[if_neg h4,if_neg h5,List.length_replicate]
theorem below_le {x:Nd}{s:Nat}(h:s≤2): ∀y∈belowS x s,y≤2:=by
 intro y hy
 unfold belowS at hy
 split at hy
 ·simp at hy;omega
 split at hy
 ·simp at hy
  rcases hy with rfl|rfl
  ·exact turn_le s
  ·exact h
 ·rw[List.eq_of_mem_replicate hy];exact h
def sds:List Nd→List Nat→List Nat
 | [],_=> []
 |_::_,[]=> []
 |x::l,s::st=>s::sds l (belowS x s++st)
theorem sds_len: ∀(l:List Nd) (st dst:List Nat),st.length=dst.length→chk l dst=0→(sds l st).length=l.length
 | [],_,_,_,_=>rfl
 |_::_,st,[],h,k=>by simp[chk] at k
 |_::_,[],_::_,h,_=>by simp at h
 |x::l,s::st,d::dst,h,k=>by
  rw[chk_one] at k
  split at k
  ·rename_i hm
   split at k
   ·cases k
   ·simp only[sds,List.length_cons]
    rw[sds_len l _ _ ?_ k]
    unfold opens
    rw[List.length_append,List.length_append,below_len s hm,List.length_replicate]
    simpa using h
  ·cases k
theorem sds_le: ∀(l:List Nd) (st:List Nat),(∀y∈st,y≤2)→ ∀y∈sds l st,y≤2
 | [],_,_,y,h=>by simp[sds] at h
 |_::_,[],_,y,h=>by simp[sds] at h
 |x::l,s::st,hs,y,h=>by
  simp only[sds,List.mem_cons] at h
  rcases h with rfl|h
  ·exact hs _ List.mem_cons_self
  ·refine sds_le l _ (fun z hz=> ?_) y h
   rcases List.mem_append.1 hz with hz|hz
   ·exact below_le (hs s List.mem_cons_self) z hz
   ·exact hs z (List.mem_cons_of_mem _ hz)
structure Sp where
 n:Nat
 p:Nat
 s:Nat
 v:Bool
 z:Int
def labS (k:Nat)(x:Nd)(s:Nat):List Sp:=⟨k,0,s,x.lv,x.ln⟩::(if x.k=5 then [⟨k,1,turnS s,x.pv,x.pn⟩] else [])
def effS (k:Nat)(x:Nd)(s:Nat):List Sp:=if x.k=5 then [⟨k,2,s,x.ev,x.en⟩] else []
def lab:Nat→List Nd→List Nat→List Sp
 |_,[],_=> []
 |_,_::_,[]=> []
 |k,x::l,s::ss=>labS k x s++lab (k+1) l ss
def eff:Nat→List Nd→List Nat→List Sp
 |_,[],_=> []
 |_,_::_,[]=> []
 |k,x::l,s::ss=>effS k x s++eff (k+1) l ss
def labB (l:List Nd):List Sp:=if checkB l=0 then lab 0 l (sds l [0]) else []
def effB (l:List Nd):List Sp:=if checkB l=0 then eff 0 l (sds l [0]) else []
theorem labS_len (k:Nat)(x:Nd)(s:Nat):1≤(labS k x s).length∧(labS k x s).length≤2:=by
 unfold labS
 split <;> simp
theorem effS_len (k:Nat)(x:Nd)(s:Nat):(effS k x s).length≤1:=by
 unfold effS
 split <;> simp
theorem lab_len: ∀(l:List Nd) (k:Nat) (ss:List Nat),(lab k l ss).length≤2*l.length
 | [],_,_=>by simp[lab]
 |_::_,_,[]=>by simp[lab]
 |x::l,k,s::ss=>by
  have:=(labS_len k x s).2
  have:=lab_len l (k+1) ss
  simp only[lab,List.length_append,List.length_cons]
  omega
theorem eff_len: ∀(l:List Nd) (k:Nat) (ss:List Nat),(eff k l ss).length≤l.length
 | [],_,_=>by simp[eff]
 |_::_,_,[]=>by simp[eff]
 |x::l,k,s::ss=>by
  have:=effS_len k x s
  have:=eff_len l (k+1) ss
  simp only[eff,List.length_append,List.length_cons]
  omega
theorem check_len {l:List Nd}(h:checkB l=0):0 < l.length∧l.length≤128:=by
 obtain⟨h1,h2,_⟩:=check_chk h
 exact⟨List.length_pos_iff.2 h1,h2⟩
theorem sides_len {l:List Nd}(h:checkB l=0):(sds l [0]).length=l.length:=sds_len l [0] [1] rfl (check_chk h).2.2
theorem labB_len (l:List Nd):(labB l).length≤256:=by
 unfold labB
 split
 ·have:=lab_len l 0 (sds l [0]);have:=check_len (by assumption);omega
 ·simp
theorem effB_len (l:List Nd):(effB l).length≤128:=by
 unfold effB
 split
 ·have:=eff_len l 0 (sds l [0]);have:=check_len (by assumption);omega
 ·simp
abbrev Tm:=Bool×Int
def Nd.put (x:Nd)(p:Nat)(t:Tm):Nd:=
 if p=0 then{x with lv:=t.1,ln:=t.2} else if p=1 then{x with pv:=t.1,pn:=t.2} else{x with ev:=t.1,en:=t.2}
def fillB:List Nd→List Sp→List Tm→List Nd
 |m,p::ps,t::ts=>fillB (m.set p.n ((m.getD p.n ⟨0,0,[],0,false,0,false,0,false,0⟩).put p.p t)) ps ts
 |m,_,_=>m
theorem fill_snoc: ∀(ps:List Sp) (ts:List Tm) (m:List Nd) (p:Sp) (t:Tm),ps.length=ts.length→
  fillB m (ps++ [p]) (ts++ [t])=(fillB m ps ts).set p.n (((fillB m ps ts).getD p.n ⟨0,0,[],0,false,0,false,0,false,0⟩).put p.p t)
 | [],[],m,p,t,_=>rfl
 | [],_::_,m,p,t,h=>by simp at h
 |_::_,[],m,p,t,h=>by simp at h
 |q::ps,u::ts,m,p,t,h=>by
  simp only[List.cons_append,fillB]
  exact fill_snoc ps ts _ p t (by simpa using h)
def putL:List Nd→List Tm→List Nd
 | [],_=> []
 |x::l,[]=>x::l
 |x::l,t::ts=>if x.k=5 then(match ts with
  | []=>(x.put 0 t)::l
  |u::us=>((x.put 0 t).put 1 u)::putL l us) else(x.put 0 t)::putL l ts
def putE:List Nd→List Tm→List Nd
 | [],_=> []
 |x::l,ts=>if x.k=5 then(match ts with
  | []=>x::l
  |u::us=>(x.put 2 u)::putE l us) else x::putE l ts
theorem set_mid (pre:List Nd)(x y:Nd)(l:List Nd):(pre++x::l).set pre.length y=pre++y::l:=by simp
theorem get_mid (pre:List Nd)(x z:Nd)(l:List Nd):(pre++x::l).getD pre.length z=x:=by simp[List.getD]
theorem put_k (x:Nd)(p:Nat)(t:Tm):(x.put p t).k=x.k:=by unfold Nd.put;split <;> (try split) <;> rfl
theorem fill_lab: ∀(l:List Nd) (pre:List Nd) (ss:List Nat) (ts:List Tm),ss.length=l.length→ts.length=(lab pre.length l ss).length→fillB (pre++l) (lab pre.length l ss) ts=pre++putL l ts
 | [],pre,ss,ts,_,h=>by
  have:ts= []:=List.eq_nil_of_length_eq_zero h
  subst this
  simp[lab,fillB,putL]
 |x::l,pre,[],ts,h,_=>by simp at h
 |x::l,pre,s::ss,[],_,h=>by
  have:=(labS_len pre.length x s).1
  simp only[lab,List.length_append,List.length_nil] at h
  omega
 |x::l,pre,s::ss,t::ts,hs,h=>by
  have hs':ss.length=l.length:=by simpa using hs
  by_cases h5:x.k=5
  ·have el:labS pre.length x s= [⟨pre.length,0,s,x.lv,x.ln⟩,⟨pre.length,1,turnS s,x.pv,x.pn⟩]:=by simp[labS,h5]
   simp only[lab,el,List.cons_append,List.nil_append,List.length_cons] at h ⊢
   cases ts with
   |nil=>simp at h
   |cons u us=>
    simp only[fillB,putL,h5,if_true,set_mid,get_mid]
    have:=fill_lab l (pre++ [(x.put 0 t).put 1 u]) ss us hs' (by simp at h ⊢;omega)
    simpa using this
  ·have el:labS pre.length x s= [⟨pre.length,0,s,x.lv,x.ln⟩]:=by simp[labS,h5]
   simp only[lab,el,List.cons_append,List.nil_append,List.length_cons] at h ⊢
   simp only[fillB,putL,h5,if_false,set_mid,get_mid]
   have:=fill_lab l (pre++ [x.put 0 t]) ss ts hs' (by simp at h ⊢;omega)
   simpa using this
theorem fill_eff: ∀(l:List Nd) (pre:List Nd) (ss:List Nat) (ts:List Tm),ss.length=l.length→ts.length=(eff pre.length l ss).length→fillB (pre++l) (eff pre.length l ss) ts=pre++putE l ts
 | [],pre,ss,ts,_,h=>by
  have:ts= []:=List.eq_nil_of_length_eq_zero h
  subst this
  simp[eff,fillB,putE]
 |x::l,pre,[],ts,h,_=>by simp at h
 |x::l,pre,s::ss,ts,hs,h=>by
  have hs':ss.length=l.length:=by simpa using hs
  by_cases h5:x.k=5
  ·have el:effS pre.length x s= [⟨pre.length,2,s,x.ev,x.en⟩]:=by simp[effS,h5]
   simp only[eff,el,List.cons_append,List.nil_append,List.length_cons] at h ⊢
   cases ts with
   |nil=>simp at h
   |cons u us=>
    simp only[fillB,putE,h5,if_true,set_mid,get_mid]
    have:=fill_eff l (pre++ [x.put 2 u]) ss us hs' (by simp at h ⊢;omega)
    simpa using this
  ·have el:effS pre.length x s= []:=by simp[effS,h5]
   simp only[eff,el,List.nil_append] at h ⊢
   simp only[putE,h5,if_false]
   have:=fill_eff l (pre++ [x]) ss ts hs' (by simp at h ⊢;omega)
   simpa using this
def putB (l:List Nd)(ts us:List Tm):List Nd:=putE (putL l ts) us
inductive Alks:List Nd→List Nd→Prop where
 |nil:Alks [] []
 |cons {x y:Nd} {l m:List Nd}:Alk x y→Alks l m→Alks (x::l) (y::m)
theorem Alks.refl: ∀l,Alks l l
 | []=> .nil
 |x::l=> .cons (Alk.refl x) (Alks.refl l)
theorem Alk.trans {x y z:Nd}(h:Alk x y)(k:Alk y z):Alk x z:=⟨h.k.trans k.k,h.m.trans k.m,h.s.trans k.s,h.n.trans k.n,h.may.trans k.may⟩
theorem Alks.trans: ∀{a b c:List Nd},Alks a b→Alks b c→Alks a c
 |_,_,_,.nil,.nil=> .nil
 |_,_,_,.cons h t,.cons h' t'=> .cons (h.trans h') (t.trans t')
theorem Alks.len: ∀{a b:List Nd},Alks a b→a.length=b.length
 |_,_,.nil=>rfl
 |_,_,.cons _ t=>by simp[t.len]
theorem Alks.get: ∀{a b:List Nd},Alks a b→ ∀j (h:j < a.length) (h':j < b.length),Alk a[j] b[j]
 |_,_,.nil,j,h,_=>by simp at h
 |_,_,.cons h t,0,_,_=>h
 |_,_,.cons _ t,j+1,h1,h2=>t.get j (by simpa using h1) (by simpa using h2)
theorem Alks.sds: ∀{a b:List Nd},Alks a b→ ∀st,sds a st=sds b st
 |_,_,.nil,_=>rfl
 |_,_,.cons _ _,[]=>rfl
 |_,_,.cons (x:=x) (y:=y) h t,s::st=>by
  have:belowS x s=belowS y s:=by simp[belowS,h.k,h.n]
  simp only[_root_.Go.Proofs.YtmejhedegmjboaaGreat.sds,this,t.sds]
theorem alk_put0 (x:Nd)(t:Tm):Alk x (x.put 0 t):=alk_L x t
theorem alk_put1 {x:Nd}(t:Tm)(h:x.k=5):Alk x (x.put 1 t):=⟨rfl,rfl,rfl,rfl,by
 obtain⟨k,m,s,n,lv,ln,pv,pn,ev,en⟩:=x
 simp only at h
 subst h
 rfl⟩
theorem alk_put2 {x:Nd}(t:Tm)(h:x.k=5):Alk x (x.put 2 t):=⟨rfl,rfl,rfl,rfl,by
 obtain⟨k,m,s,n,lv,ln,pv,pn,ev,en⟩:=x
 simp only at h
 subst h
 rfl⟩
theorem alks_putL: ∀(l:List Nd) (ts:List Tm),Alks l (putL l ts)
 | [],_=> .nil
 |x::l,[]=>Alks.refl _
 |x::l,t::ts=>by
  unfold putL
  split
  ·rename_i h5
   split
   ·exact .cons (alk_put0 x t) (Alks.refl l)
   ·exact .cons ((alk_put0 x t).trans (alk_put1 _ (by rw[put_k];exact h5))) (alks_putL l _)
  ·exact .cons (alk_put0 x t) (alks_putL l ts)
theorem alks_putE: ∀(l:List Nd) (ts:List Tm),Alks l (putE l ts)
 | [],_=> .nil
 |x::l,ts=>by
  unfold putE
  split
  ·rename_i h5
   split
   ·exact Alks.refl _
   ·exact .cons (alk_put2 _ h5) (alks_putE l _)
  ·exact .cons (Alk.refl x) (alks_putE l ts)
theorem alks_putB (l:List Nd)(ts us:List Tm):Alks l (putB l ts us):=(alks_putL l ts).trans (alks_putE _ us)
def Sp.re (p:Sp)(t:Tm):Sp:={p with v:=t.1,z:=t.2}
theorem lab_putL: ∀(l:List Nd) (k:Nat) (ss:List Nat) (ts:List Tm),ss.length=l.length→ts.length=(lab k l ss).length→lab k (putL l ts) ss=List.zipWith Sp.re (lab k l ss) ts
 | [],k,ss,ts,_,_=>by simp[lab,putL]
 |x::l,k,[],ts,h,_=>by simp at h
 |x::l,k,s::ss,[],_,h=>by
  have:=(labS_len k x s).1
  simp only[lab,List.length_append,List.length_nil] at h
  omega
 |x::l,k,s::ss,t::ts,hs,h=>by
  have hs':ss.length=l.length:=by simpa using hs
  by_cases h5:x.k=5
  ·have el:labS k x s= [⟨k,0,s,x.lv,x.ln⟩,⟨k,1,turnS s,x.pv,x.pn⟩]:=by simp[labS,h5]
   simp only[lab,el,List.cons_append,List.nil_append,List.length_cons] at h ⊢
   cases ts with
   |nil=>simp at h
   |cons u us=>
    have:=lab_putL l (k+1) ss us hs' (by simp at h;omega)
    simp only[putL,h5,if_true,lab,List.zipWith_cons_cons,this]
    simp[labS,Nd.put,h5,Sp.re]
  ·have el:labS k x s= [⟨k,0,s,x.lv,x.ln⟩]:=by simp[labS,h5]
   simp only[lab,el,List.cons_append,List.nil_append,List.length_cons] at h ⊢
   have:=lab_putL l (k+1) ss ts hs' (by simp at h;omega)
   simp only[putL,h5,if_false,lab,List.zipWith_cons_cons,this]
   simp[labS,Nd.put,h5,Sp.re]
theorem lab_putE: ∀(l:List Nd) (k:Nat) (ss:List Nat) (ts:List Tm),lab k (putE l ts) ss=lab k l ss
 | [],k,ss,ts=>by simp[lab,putE]
 |x::l,k,[],ts=>by
  unfold putE
  split
  ·split <;> rfl
  ·rfl
 |x::l,k,s::ss,ts=>by
  unfold putE
  split
  ·rename_i h5
   split
   ·rfl
   ·simp only[lab,lab_putE l]
    simp[labS,Nd.put,h5]
  ·simp only[lab,lab_putE l]
theorem eff_putL: ∀(l:List Nd) (k:Nat) (ss:List Nat) (ts:List Tm),eff k (putL l ts) ss=eff k l ss
 | [],k,ss,ts=>by simp[eff,putL]
 |x::l,k,ss,[]=>rfl
 |x::l,k,[],t::ts=>by
  unfold putL
  split
  ·split <;> rfl
  ·rfl
 |x::l,k,s::ss,t::ts=>by
  unfold putL
  split
  ·rename_i h5
   split
   ·simp only[eff]
    simp[effS,Nd.put,h5]
   ·simp only[eff,eff_putL l]
    simp[effS,Nd.put,h5]
  ·simp only[eff,eff_putL l]
   simp[effS,Nd.put]
theorem eff_putE: ∀(l:List Nd) (k:Nat) (ss:List Nat) (ts:List Tm),ss.length=l.length→ts.length=(eff k l ss).length→eff k (putE l ts) ss=List.zipWith Sp.re (eff k l ss) ts
 | [],k,ss,ts,_,_=>by simp[eff,putE]
 |x::l,k,[],ts,h,_=>by simp at h
 |x::l,k,s::ss,ts,hs,h=>by
  have hs':ss.length=l.length:=by simpa using hs
  by_cases h5:x.k=5
  ·have el:effS k x s= [⟨k,2,s,x.ev,x.en⟩]:=by simp[effS,h5]
   simp only[eff,el,List.cons_append,List.nil_append,List.length_cons] at h ⊢
   cases ts with
   |nil=>simp at h
   |cons u us=>
    have:=eff_putE l (k+1) ss us hs' (by simp at h;omega)
    simp only[putE,h5,if_true,eff,List.zipWith_cons_cons,this]
    simp[effS,Nd.put,h5,Sp.re]
  ·have el:effS k x s= []:=by simp[effS,h5]
   simp only[eff,el,List.nil_append] at h ⊢
   have:=eff_putE l (k+1) ss ts hs' (by omega)
   simp only[putE,h5,if_false,eff,this,el,List.nil_append]
theorem putB_check {l:List Nd}(ts us:List Tm):checkB (putB l ts us)=checkB l:=(check_alk (alks_putB l ts us).len (alks_putB l ts us).get).symm
theorem putB_fill {l:List Nd}(h:checkB l=0){ts us:List Tm}(ht:ts.length=(labB l).length)(hu:us.length=(effB l).length):fillB (fillB l (labB l) ts) (effB l) us=putB l ts us:=by
 have hsl:=sides_len h
 unfold labB at ht ⊢
 unfold effB at hu ⊢
 rw[if_pos h] at ht hu ⊢
 rw[if_pos h]
 have h1:=fill_lab l [] (sds l [0]) ts hsl (by simpa using ht)
 simp only[List.nil_append,List.length_nil] at h1
 rw[h1]
 have h2:=fill_eff (putL l ts) [] (sds l [0]) us (by rw[← (alks_putL l ts).len];exact hsl) (by rw[List.length_nil,eff_putL];exact hu)
 simp only[List.nil_append,List.length_nil,eff_putL] at h2
 exact h2
theorem putB_lab {l:List Nd}(h:checkB l=0){ts us:List Tm}(ht:ts.length=(labB l).length):labB (putB l ts us)=List.zipWith Sp.re (labB l) ts:=by
 have hsl:=sides_len h
 unfold labB at ht ⊢
 rw[putB_check,if_pos h, ← (alks_putB l ts us).sds]
 rw[if_pos h] at ht
 rw[if_pos h]
 unfold putB
 rw[lab_putE,lab_putL l 0 _ ts hsl ht]
theorem putB_eff {l:List Nd}(h:checkB l=0){ts us:List Tm}(hu:us.length=(effB l).length):effB (putB l ts us)=List.zipWith Sp.re (effB l) us:=by
 have hsl:=sides_len h
 unfold effB at hu ⊢
 rw[putB_check,if_pos h, ← (alks_putB l ts us).sds]
 rw[if_pos h] at hu
 rw[if_pos h]
 unfold putB
 rw[eff_putE _ 0 _ us (by rw[← (alks_putL l ts).len];exact hsl) (by rw[eff_putL];exact hu),eff_putL]
end Go.Proofs.YtmejhedegmjboaaGreat
namespace Go.Proofs.YtmejhedegmjboaaGreat
open Go.RowKit
def sc (s:Nat):Value:= .int .u8 (s:Int)
theorem heap_at (w:World)(o:Obj){g:Nat}(h:g=w.heap.size):(w.alloc o).heap[g]?=some o:=by subst h;exact heap_alloc_new w o
theorem rd_lit {α:Type}{enc:α→Value}{W:World}{g n:Nat}{cs:Array Value}{E:TypeId}{l:List α}(hg:W.heap[g]?=some (.cells cs E (0,0)))(hcs:cs.toList=l.map enc)(hn:l.length=n)(hm:n≤maxLen):Rd enc W W.heap.size (some ⟨g,0,none⟩) n n l:=by
 refine⟨hn,Nat.le_refl _,hm,(fun h=>by cases h),fun _=>⟨g,0,rfl,lt_blk hg,fun j hj=> ?_⟩⟩
 rw[cell_blk hg, ← Array.getElem?_toList,hcs]
 simp[hj]
theorem sc_one (s:Nat):(sc s).oneCell'=true:=rfl
set_option maxRecDepth 100000 in
theorem turned_any (s:Nat)(w:World):Calls Tryz.prog 77 #[.int .u8 (s:Int)] w fun e w'=>e= .returned (.int .u8 (turnS s:Int))∧w=w':=by
 by_cases h0:s=0
 ·subst h0
  go_enter Tryz.func77,Tryz.ntmps77
  go_wp2
  go_ret
  exact⟨rfl,rfl⟩
 have h0':((s:Int)==0)=false:=by simp;omega
 by_cases h1:s=1
 ·subst h1
  go_enter Tryz.func77,Tryz.ntmps77
  go_wp2
  go_ret
  exact⟨rfl,rfl⟩
 have h1':((s:Int)==1)=false:=by simp;omega
 have HT:Hid (turnS s=2):=Lib.hid (by unfold turnS;rw[if_neg h0,if_neg h1])
 go_enter Tryz.func77,Tryz.ntmps77
 go_wp2
 go_ret
 exact⟨by rw[HT.out];rfl,rfl⟩
set_option maxRecDepth 100000 in
set_option maxHeartbeats 1000000 in
theorem below_any (x:Nd)(s:Nat)(w:World)(h0:0≤x.n)(h8:x.n≤8):
  Calls Tryz.prog 124 #[ndv x,.int .u8 (s:Int)] w fun e w'=> ∃A n c,e= .returned (.slice A n c)∧Rd sc w' w'.heap.size A n c (belowS x s).reverse∧Below w.heap.size w w':=by
 have HB:Hid (belowS x s=if x.k=4 then [2] else if x.k=5 then [turnS s,s] else List.replicate x.n.toNat s):=Lib.hid rfl
 unfold ndv
 obtain⟨xk,xm,xs,xn,xlv,xln,xpv,xpn,xev,xen⟩:=x
 simp only at h0 h8 HB ⊢
 obtain⟨q,rfl⟩:=Int.eq_ofNat_of_zero_le h0
 have hal:Below w.heap.size w (w.alloc (.cells #[.int .u8 xk,.int .i64 xm,.string (str xs),.int .i64 (q:Int),.bool xlv,.int .u64 xln,.bool xpv,.int .u64 xpn,.bool xev,.int .u64 xen] 116)):=(Below.refl _ _).alloc (Nat.le_refl _) _
 by_cases h4:xk=4
 ·subst h4
  rw[if_pos rfl] at HB
  go_enter Tryz.func124,Tryz.ntmps124
  go_wp2
  go_ret
  refine⟨_,_,_,rfl,?_,hal.alloc hal.size _⟩
  rw[HB.out]
  exact rd_lit (heap_at _ _ (by simp)) rfl rfl (by unfold maxLen;omega)
 have h4':(xk==4)=false:=by simpa using h4
 rw[if_neg h4] at HB
 by_cases h5:xk=5
 ·subst h5
  rw[if_pos rfl] at HB
  go_enter Tryz.func124,Tryz.ntmps124
  go_wp2_with fail
  refine(turned_any s _).mono ?_
  rintro e w1 ⟨rfl,rfl⟩
  go_wp2_with fail
  go_ret
  refine⟨_,_,_,rfl,?_,hal.alloc hal.size _⟩
  rw[HB.out]
  exact rd_lit (heap_at _ _ (by simp)) rfl rfl (by unfold maxLen;omega)
 have h5':(xk==5)=false:=by simpa using h5
 rw[if_neg h5,Int.toNat_natCast] at HB
 have HAL:=Lib.hid hal
 clear hal
 go_enter Tryz.func124,Tryz.ntmps124
 go_wp2_with fail
 refine(repeat_anyS (w.heap.size+1) 0 1 (s:Int) q _ (by omega) ?_ ?_).mono ?_
 ·simp
 ·rw[World.cell?_alloc_at _ _ _ _ (by simp)]
  rfl
 rintro e w6 ⟨g,rfl,hg,hb⟩
 go_wp2_with fail
 go_ret
 refine⟨_,_,_,rfl,?_,?_⟩
 ·rw[HB.out,List.reverse_replicate]
  refine⟨List.length_replicate,Nat.le_refl _,by unfold maxLen;omega,(fun h=>by cases h),fun h=>⟨g,0,rfl,lt_blk hg,fun j hj=> ?_⟩⟩
  rw[cell_blk hg]
  simp only[List.length_replicate] at hj
  simp[sc,hj]
 ·have h1:=HAL.out.alloc HAL.out.size (.cells #[.int .u8 (s:Int)] 65)
  exact h1.trans (hb.mono h1.size)
end Go.Proofs.YtmejhedegmjboaaGreat
namespace Go.Proofs.YtmejhedegmjboaaGreat
open Go.RowKit
def po (p:Nat):Nat:=if p=0 then 4 else if p=1 then 6 else 8
def Nd.tm (x:Nd)(p:Nat):Tm:=if p=0 then(x.lv,x.ln) else if p=1 then(x.pv,x.pn) else(x.ev,x.en)
theorem finderIn_any (A:Option Addr)(m c:Nat)(w:World):Calls Tryz.prog 50 #[.slice A m c] w fun e w'=>e= .returned (.func (.func 92) #[] #[.pointer (some ⟨w.heap.size,0,none⟩)])∧w'=w.alloc (.cells #[.slice A m c] 47):=by
 go_enter Tryz.func50,Tryz.ntmps50
 go_wp2
 go_ret
 exact⟨rfl,rfl⟩
set_option maxRecDepth 100000 in
theorem finder_any (k p Bf B:Nat)(A:Option Addr)(m c:Nat)(l:List Nd)(w:World)(hcell:w.cell? ⟨Bf,0,none⟩=some (.slice A m c))(hr:Ns w B A m c l)(hk:k < l.length)(hp:p≤2):
  Calls Tryz.prog 92 #[.int .i64 (k:Int),.int .u8 (p:Int),.pointer (some ⟨Bf,0,none⟩)] w fun e w'=>(∃b o,A=some ⟨b,o,none⟩∧e= .returned (.pointer (some ⟨b,o+k*10+po p,none⟩)))∧w=w':=by
 have hl:=hr.len
 have hcap:=hr.cap
 have htop:=hr.top
 unfold maxLen at htop
 obtain⟨b,o,rfl,hbb,-⟩:=hr.node hk
 rw[hl] at hk
 clear hr
 have h:p=0∨p=1∨p=2:=by omega
 clear hp
 rcases h with rfl|rfl|rfl
 all_goals(
  go_enter Tryz.func92,Tryz.ntmps92
  go_wp2
  go_ret
  exact⟨⟨b,o,rfl,rfl⟩,rfl⟩)
def spv (q:Sp):Value:= .agg #[.int .i64 (q.n:Int),.int .u8 (q.p:Int),.int .u8 (q.s:Int),.bool q.v,.int .u64 q.z]
def spc (q:Sp):List Value:= [.int .i64 (q.n:Int),.int .u8 (q.p:Int),.int .u8 (q.s:Int),.bool q.v,.int .u64 q.z]
theorem spc_len (q:Sp):(spc q).length=5:=rfl
theorem node_tm {w:World}{B n c:Nat}{b o:Nat}{l:List Nd}(h:Ns w B (some ⟨b,o,none⟩) n c l){k:Nat}(hk:k < l.length)(p:Nat):
  w.cell? ⟨b,o+k*10+po p,none⟩=some (.bool (l[k].tm p).1)∧w.cell? ⟨b,o+k*10+po p+1,none⟩=some (.int .u64 (l[k].tm p).2):=by
 obtain⟨b',o',e,-,c0,c1,c2,c3,c4,c5,c6,c7,c8,c9⟩:=h.node hk
 injection e with e
 injection e with e1 e2
 subst e1
 subst e2
 unfold po Nd.tm
 split
 ·exact⟨c4,c5⟩
 split
 ·exact⟨c6,c7⟩
 ·exact⟨c8,c9⟩
set_option maxRecDepth 100000 in
set_option maxHeartbeats 1000000 in
theorem spot_any (k p s Bs Bf B:Nat)(A:Option Addr)(m c:Nat)(l:List Nd)(w:World)(hs:w.cell? ⟨Bs,0,none⟩=some (.func (.func 92) #[] #[.pointer (some ⟨Bf,0,none⟩)]))(hcell:w.cell? ⟨Bf,0,none⟩=some (.slice A m c))(hr:Ns w B A m c l)(hB:B≤w.heap.size)(hk:k < l.length)(hp:p≤2):
  Calls Tryz.prog 75 #[.int .i64 (k:Int),.int .u8 (p:Int),.int .u8 (s:Int),.pointer (some ⟨Bs,0,none⟩)] w fun e w'=>e= .returned (spv ⟨k,p,s,(l[k].tm p).1,(l[k].tm p).2⟩)∧Below w.heap.size w w':=by
 have hal: ∀o:Obj,Below w.heap.size w (w.alloc o):=fun o=>(Below.refl _ _).alloc (Nat.le_refl _) o
 have hs1: ∀o:Obj,(w.alloc o).cell? ⟨Bs,0,none⟩=some (.func (.func 92) #[] #[.pointer (some ⟨Bf,0,none⟩)]):=fun o=>((hal o).cell (p:=⟨Bs,0,none⟩) (World.block_lt_of_cell? w ⟨Bs,0,none⟩ hs)).trans hs
 have hf1: ∀o:Obj,(w.alloc o).cell? ⟨Bf,0,none⟩=some (.slice A m c):=fun o=>((hal o).cell (p:=⟨Bf,0,none⟩) (World.block_lt_of_cell? w ⟨Bf,0,none⟩ hcell)).trans hcell
 have hr1: ∀o:Obj,Ns (w.alloc o) B A m c l:=fun o=>hr.below ((hal o).mono hB)
 obtain⟨b,o,rfl,hbb,-⟩:=hr.node hk
 have ht:=fun o'=>node_tm (hr1 o') hk p
 have HF:=Lib.hid (fun o'=>finder_any k p Bf B _ m c l (w.alloc o') (hf1 o') (hr1 o') hk hp)
 have ht0:=fun o'=>(ht o').1
 have ht1:=fun o'=>(ht o').2
 clear ht hr1 hf1 hr hcell hs
 generalize (l[k].tm p).1=tv at*
 generalize (l[k].tm p).2=tn at*
 go_enter Tryz.func75,Tryz.ntmps75
 go_wp2_with fail
 refine(HF.out _).mono ?_
 rintro e w1 ⟨⟨b',o',heq,rfl⟩,rfl⟩
 injection heq with heq
 injection heq with e1 e2
 subst e1
 subst e2
 generalize haa:o+k*10+po p=a at*
 clear haa
 go_wp2_with fail
 exact bodyPost_ret (results_cell_row (P:=Tryz.prog) rfl _ _ w.heap.size 67 _ (0,0) _ rfl (heap_alloc_new w _) Tryz.underlying67 rfl rfl) rfl ⟨rfl,hal _⟩
theorem spot_lab (k s Bs Bf B:Nat)(A:Option Addr)(m c:Nat)(l:List Nd)(w:World)(hs:w.cell? ⟨Bs,0,none⟩=some (.func (.func 92) #[] #[.pointer (some ⟨Bf,0,none⟩)]))(hcell:w.cell? ⟨Bf,0,none⟩=some (.slice A m c))(hr:Ns w B A m c l)(hB:B≤w.heap.size)(hk:k < l.length):
  Calls Tryz.prog 75 #[.int .i64 (k:Int),.int .u8 0,.int .u8 (s:Int),.pointer (some ⟨Bs,0,none⟩)] w fun e w'=>e= .returned (.agg #[.int .i64 (k:Int),.int .u8 0,.int .u8 (s:Int),.bool l[k].lv,.int .u64 l[k].ln])∧Below w.heap.size w w':=
 spot_any k 0 s Bs Bf B A m c l w hs hcell hr hB hk (by omega)
theorem spot_pc (k s Bs Bf B:Nat)(A:Option Addr)(m c:Nat)(l:List Nd)(w:World)(hs:w.cell? ⟨Bs,0,none⟩=some (.func (.func 92) #[] #[.pointer (some ⟨Bf,0,none⟩)]))(hcell:w.cell? ⟨Bf,0,none⟩=some (.slice A m c))(hr:Ns w B A m c l)(hB:B≤w.heap.size)(hk:k < l.length):
  Calls Tryz.prog 75 #[.int .i64 (k:Int),.int .u8 1,.int .u8 (s:Int),.pointer (some ⟨Bs,0,none⟩)] w fun e w'=>e= .returned (.agg #[.int .i64 (k:Int),.int .u8 1,.int .u8 (s:Int),.bool l[k].pv,.int .u64 l[k].pn])∧Below w.heap.size w w':=
 spot_any k 1 s Bs Bf B A m c l w hs hcell hr hB hk (by omega)
theorem spot_eff (k s Bs Bf B:Nat)(A:Option Addr)(m c:Nat)(l:List Nd)(w:World)(hs:w.cell? ⟨Bs,0,none⟩=some (.func (.func 92) #[] #[.pointer (some ⟨Bf,0,none⟩)]))(hcell:w.cell? ⟨Bf,0,none⟩=some (.slice A m c))(hr:Ns w B A m c l)(hB:B≤w.heap.size)(hk:k < l.length):
  Calls Tryz.prog 75 #[.int .i64 (k:Int),.int .u8 2,.int .u8 (s:Int),.pointer (some ⟨Bs,0,none⟩)] w fun e w'=>e= .returned (.agg #[.int .i64 (k:Int),.int .u8 2,.int .u8 (s:Int),.bool l[k].ev,.int .u64 l[k].en])∧Below w.heap.size w w':=
 spot_any k 2 s Bs Bf B A m c l w hs hcell hr hB hk (by omega)
end Go.Proofs.YtmejhedegmjboaaGreat
