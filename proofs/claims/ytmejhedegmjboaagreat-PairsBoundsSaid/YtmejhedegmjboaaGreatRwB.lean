import Derived.Maps.OwnSet
import Derived.WideKeyPair
import Derived.DeepKeys4
import Derived.Test.YtmejhedegmjboaaGreatLaOrd
import Derived.Test.YtmejhedegmjboaaGreatOpn
import Derived.Test.YtmejhedegmjboaaGreatReOf
set_option maxRecDepth 100000
set_option maxHeartbeats 8000000
namespace Go.Proofs.YtmejhedegmjboaaGreat.I
def sd (z:Sen)(i:Nat):Nat:=(z.p.getD i ⟨0,0,0,false,0⟩).s
def bb (z:Sen)(i j:Nat):Bool:=(z.be.getD i []).getD j false
def lw (z:Sen)(i:Nat):Nat:=z.lo.getD i 0
def hg (z:Sen)(i:Nat):Nat:=z.hi.getD i 0
def colB (z:Sen)(i k:Nat):Bool:=bb z k i
def rowB (z:Sen)(i k:Nat):Bool:=bb z i k
def pcN (n:Nat)(r:Nat→Bool)(j:Nat):Nat:=La.mk (fun k=>r (64*j+k)) (min (64*j+64) n - 64*j)
def pcL (n:Nat)(r:Nat→Bool):Nat→List Nat
 |0=> []
 |j+1=>pcN n r j::pcL n r j
def pcs (n:Nat):Nat:=(n+63) / 64
theorem QJ (n:Nat)(r:Nat→Bool): ∀j,(pcL n r j).length=j
 |0=>rfl
 |j+1=>by rw[pcL,List.length_cons,QJ n r j]
theorem Zmk (n:Nat)(r:Nat→Bool)(j:Nat):pcN n r j < 18446744073709551616:=by
 have h1:=La.ZeT (fun k=>r (64*j+k)) (min (64*j+64) n - 64*j)
 have h2:(2:Nat) ^ (min (64*j+64) n - 64*j)≤2 ^ 64:=Nat.pow_le_pow_right (by decide) (by omega)
 exact Nat.lt_of_lt_of_le h1 (Nat.le_trans h2 (by decide))
theorem Zjq {n:Nat}{r s:Nat→Bool}: ∀{j},pcL n r j=pcL n s j→ ∀i < j,pcN n r i=pcN n s i
 |0,_,i,hi=>by omega
 |j+1,h,i,hi=>by(
 simp only[pcL,List.cons.injEq] at h
 by_cases e:i=j
 ·subst e;exact h.1
 ·exact Zjq h.2 i (by omega))
theorem QK {n:Nat}{r s:Nat→Bool}(h: ∀k < n,r k=s k): ∀j,pcL n r j=pcL n s j
 |0=>rfl
 |j+1=>by(
 rw[pcL,pcL,QK h j]
 congr 1
 apply Nat.eq_of_testBit_eq
 intro i
 rw[pcN,pcN,La.QZ,La.QZ]
 by_cases hi:i < min (64*j+64) n - 64*j
 ·rw[h _ (by omega)]
 ·simp[hi])
theorem ZgK {n:Nat}{r s:Nat→Bool}(h:pcL n r (pcs n)=pcL n s (pcs n)): ∀k < n,r k=s k:=by
 intro k hk
 have h1:=Zjq h (k / 64) (by unfold pcs;omega)
 have h2:=congrArg (fun x=>x.testBit (k%64)) h1
 simp only[pcN,La.QZ] at h2
 have e:64*(k / 64)+k%64=k:=by omega
 have d:decide (k%64 < min (64*(k / 64)+64) n - 64*(k / 64))=true:=decide_eq_true (by omega)
 rw[d,e] at h2
 simpa using h2
abbrev Nm:=Nat×Nat→Option Nat
structure Shelf (f:Nm)(m:Nat):Prop where
 inj: ∀x y v,f x=some v→f y=some v→x=y
 pos: ∀x v,f x=some v→0 < v∧v≤m
def Ext (f f':Nm):Prop:= ∀x v,f x=some v→f' x=some v
theorem Ext.refl (f:Nm):Ext f f:=fun _ _ h=>h
theorem Ext.trans {f f' f'':Nm}(h:Ext f f')(k:Ext f' f''):Ext f f'':=fun x v e=>k x v (h x v e)
def putF {α:Type} [DecidableEq α] (f:α→Option Nat)(x:α)(v:Nat):α→Option Nat:=fun y=>if y=x then some v else f y
theorem Vx {α:Type} [DecidableEq α] (f:α→Option Nat)(x:α)(v:Nat):putF f x v x=some v:=by simp[putF]
theorem VA {α:Type} [DecidableEq α] {f:α→Option Nat}{x y:α}{v:Nat}(h:y≠x):putF f x v y=f y:=by simp[putF,h]
theorem Shelf.empty:Shelf (fun _=>none) 0:=⟨(fun _ _ _ h=>by cases h),fun _ _ h=>by cases h⟩
theorem Shelf.put {f:Nm}{m:Nat}(h:Shelf f m){x:Nat×Nat}(hx:f x=none):Shelf (putF f x (m+1)) (m+1)∧Ext f (putF f x (m+1)):=by
 refine⟨⟨fun y y' v e e'=> ?_,fun y v e=> ?_⟩,fun y v e=> ?_⟩
 ·(
 unfold putF at e e'
 split at e <;> split at e'
 ·rename_i h1 h2;rw[h1,h2]
 ·have:=(h.pos _ _ e').2;simp only[Option.some.injEq] at e;omega
 ·have:=(h.pos _ _ e).2;simp only[Option.some.injEq] at e';omega
 ·exact h.inj _ _ _ e e')
 ·unfold putF at e
  split at e
  ·simp only[Option.some.injEq] at e;omega
  ·have:=h.pos _ _ e;omega
 ·rw[VA]
  ·exact e
  ·rintro rfl;rw[hx] at e;cases e
def Dec (f:Nm):List Nat→Nat→Prop
 | [],a=>a=0
 |x::r,a=> ∃b,Dec f r b∧f (b,x)=some a
theorem Dec.mono {f f':Nm}(h:Ext f f'): ∀{l a},Dec f l a→Dec f' l a
 | [],_,e=>e
 |_::_,_,⟨b,h1,h2⟩=>⟨b,Dec.mono h h1,h _ _ h2⟩
theorem Dec.fn {f:Nm}: ∀{l a b},Dec f l a→Dec f l b→a=b
 | [],_,_,h,k=>by rw[show _=0 from h,show _=0 from k]
 |_::_,_,_,⟨x,h1,h2⟩,⟨y,k1,k2⟩=>by(
 obtain rfl:=Dec.fn h1 k1
 rw[h2] at k2
 exact Option.some.inj k2)
theorem Dec.inj {f:Nm}{m:Nat}(hf:Shelf f m): ∀{l l' a},Dec f l a→Dec f l' a→l.length=l'.length→l=l'
 | [],[],_,_,_,_=>rfl
 | [],_::_,_,_,_,e=>by simp at e
 |_::_,[],_,_,_,e=>by simp at e
 |_::_,_::_,_,⟨x,h1,h2⟩,⟨y,k1,k2⟩,e=>by(
 have:=hf.inj _ _ _ h2 k2
 simp only[Prod.mk.injEq] at this
 obtain⟨rfl,rfl⟩:=this
 rw[Dec.inj hf h1 k1 (by simpa using e)])
theorem Dec.lt {f:Nm}{m:Nat}(hf:Shelf f m): ∀{l a},Dec f l a→a≤m
 | [],_,h=>by rw[show _=0 from h];exact Nat.zero_le _
 |_::_,_,⟨_,_,h2⟩=>(hf.pos _ _ h2).2
def Look (z:Sen)(i j:Nat):Prop:=
 sd z i=sd z j∧(sd z i≠1→lw z i=lw z j∧ ∀k < z.p.length,bb z k i=bb z k j)∧(sd z i≠0→hg z i=hg z j∧ ∀k < z.p.length,bb z i k=bb z j k)
theorem Look.refl (z:Sen)(i:Nat):Look z i i:=⟨rfl,fun _=>⟨rfl,fun _ _=>rfl⟩,fun _=>⟨rfl,fun _ _=>rfl⟩⟩
theorem Look.symm {z:Sen}{i j:Nat}(h:Look z i j):Look z j i:=
 ⟨h.1.symm,fun e=>⟨(h.2.1 (h.1▸e)).1.symm,fun k hk=>((h.2.1 (h.1▸e)).2 k hk).symm⟩,fun e=>⟨(h.2.2 (h.1▸e)).1.symm,fun k hk=>((h.2.2 (h.1▸e)).2 k hk).symm⟩⟩
theorem Look.trans {z:Sen}{i j l:Nat}(h:Look z i j)(g:Look z j l):Look z i l:=
 ⟨h.1.trans g.1,fun e=>⟨(h.2.1 e).1.trans (g.2.1 (h.1▸e)).1,fun k hk=>((h.2.1 e).2 k hk).trans ((g.2.1 (h.1▸e)).2 k hk)⟩,
  fun e=>⟨(h.2.2 e).1.trans (g.2.2 (h.1▸e)).1,fun k hk=>((h.2.2 e).2 k hk).trans ((g.2.2 (h.1▸e)).2 k hk)⟩⟩
def okA (z:Sen)(i:Nat):Bool:= !decide (sd z i=2)||bb z i i
noncomputable def lookB (z:Sen) (i j:Nat):Bool:= @decide (okA z j=true∧Look z j i) (Classical.propDecidable _)
theorem QL {z:Sen}{i j:Nat}:lookB z i j=true↔okA z j=true∧Look z j i:=by unfold lookB;exact @decide_eq_true_iff _ (Classical.propDecidable _)
noncomputable def first(z:Sen) (i:Nat):Nat:=if okA z i=true then((List.range i).find? (lookB z i)).getD i else i
structure Zcl (z:Sen)(i v:Nat):Prop where
 le:v≤i
 ok:okA z v=true
 look:Look z v i
 least: ∀j < v,okA z j=true→ ¬Look z j i
theorem Vl {z:Sen}{i:Nat}(h:okA z i=true):Zcl z i (first z i):=by
 unfold first
 rw[if_pos h]
 cases e:(List.range i).find? (lookB z i) with
 |none=>
  refine⟨Nat.le_refl _,h,Look.refl _ _,fun j hj ho hl=> ?_⟩
  exact List.find?_eq_none.1 e j (List.mem_range.2 hj) (QL.2 ⟨ho,hl⟩)
 |some v=>(
 obtain⟨h1,pa,pb,h2,h3⟩:=List.find?_eq_some_iff_append.1 e
 have h1:=QL.1 h1
 have hv:v < i:=List.mem_range.1 (by rw[h2];simp)
 refine⟨Nat.le_of_lt hv,h1.1,h1.2,fun j hj ho hl=> ?_⟩
 replace hj:j < v:=hj
 have hlen:pa.length=v:=by(
 have e1:(List.range i)[pa.length]?=some v:=by rw[h2];simp
 have hlt:=(List.getElem?_eq_some_iff.1 e1).1
 rw[List.length_range] at hlt
 rw[List.getElem?_range hlt] at e1
 exact Option.some.inj e1)
 have hja:j∈pa:=by(
 have e1:(List.range i)[j]?=pa[j]?:=by rw[h2,List.getElem?_append_left (by omega)]
 rw[List.getElem?_range (by omega)] at e1
 exact List.mem_of_getElem? e1.symm)
 have:=h3 j hja
 rw[QL.2 ⟨ho,hl⟩] at this
 cases this)
theorem YX {z:Sen}{i u v:Nat}(h:Zcl z i u)(k:Zcl z i v):u=v:=by
 rcases Nat.lt_trichotomy u v with e|e|e
 ·exact absurd h.look (k.least _ e h.ok)
 ·exact e
 ·exact absurd k.look (h.least _ e k.ok)
theorem YY {z:Sen}{i:Nat}(h: ∀j < i,okA z j=true→ ¬Look z j i):first z i=i:=by
 by_cases ho:okA z i=true
 ·exact YX (Vl ho) ⟨Nat.le_refl _,ho,Look.refl _ _,h⟩
 ·unfold first;rw[if_neg ho]
theorem KQ {z:Sen}{i:Nat}(h:okA z i=false):first z i=i:=by
 unfold first;rw[if_neg (by rw[h];simp)]
theorem YZ {z:Sen}{i j:Nat}(hi:okA z i=true)(hj:okA z j=true)(hl:Look z j i)(hlt:j < i):first z i=first z j:=by
 have k:=Vl hj
 exact YX (Vl hi) ⟨by have:=k.le;omega,k.ok,k.look.trans hl,fun l h1 h2 h3=>k.least l h1 h2 (h3.trans hl.symm)⟩
theorem Zds (z:Sen)(i:Nat):first z i≤i:=by
 by_cases ho:okA z i=true
 ·exact(Vl ho).le
 ·unfold first;rw[if_neg ho];exact Nat.le_refl _
abbrev Key:=Nat×Nat×Nat×Nat×Nat
structure LkN (f:Nm)(z:Sen)(i:Nat)(x:Key):Prop where
 s:x.1=sd z i
 lo:x.2.1=if sd z i=1 then 0 else lw z i
 hi:x.2.2.1=if sd z i=0 then 0 else hg z i
 un:if sd z i=1 then x.2.2.2.1=0 else Dec f (pcL z.p.length (colB z i) (pcs z.p.length)) x.2.2.2.1
 be:if sd z i=0 then x.2.2.2.2=0 else Dec f (pcL z.p.length (rowB z i) (pcs z.p.length)) x.2.2.2.2
theorem LkN.mono {f f':Nm}(h:Ext f f'){z:Sen}{i:Nat}{x:Key}(k:LkN f z i x):LkN f' z i x:=by
 refine⟨k.s,k.lo,k.hi,?_,?_⟩
 ·have:=k.un;split <;> split at this <;> first|contradiction|exact this|exact this.mono h
 ·have:=k.be;split <;> split at this <;> first|contradiction|exact this|exact this.mono h
theorem LkN.fn {f:Nm}{z:Sen}{i:Nat}{x y:Key}(h:LkN f z i x)(k:LkN f z i y):x=y:=by
 obtain⟨x1,x2,x3,x4,x5⟩:=x
 obtain⟨y1,y2,y3,y4,y5⟩:=y
 have h1:=h.s.trans k.s.symm
 have h2:=h.lo.trans k.lo.symm
 have h3:=h.hi.trans k.hi.symm
 have h4:x4=y4:=by
  have a:=h.un;have b:=k.un
  split at a <;> split at b <;> first|contradiction|exact a.trans b.symm|exact a.fn b
 have h5:x5=y5:=by
  have a:=h.be;have b:=k.be
  split at a <;> split at b <;> first|contradiction|exact a.trans b.symm|exact a.fn b
 simp only at h1 h2 h3
 rw[h1,h2,h3,h4,h5]
theorem LkN.look {f:Nm}{m:Nat}(hf:Shelf f m){z:Sen}{i j:Nat}{x:Key}(h:LkN f z i x)(k:LkN f z j x):Look z i j:=by
 have hs:=h.s.symm.trans k.s
 refine⟨hs,fun e=> ?_,fun e=> ?_⟩
 ·have a:=h.un;have b:=k.un;have c:=h.lo;have d:=k.lo
  rw[if_neg e] at a c
  rw[if_neg (hs▸e)] at b d
  exact⟨c.symm.trans d,ZgK (a.inj hf b (by rw[QJ,QJ]))⟩
 ·have a:=h.be;have b:=k.be;have c:=h.hi;have d:=k.hi
  rw[if_neg e] at a c
  rw[if_neg (hs▸e)] at b d
  exact⟨c.symm.trans d,ZgK (a.inj hf b (by rw[QJ,QJ]))⟩
theorem LkN.of {f:Nm}{z:Sen}{i j:Nat}{x:Key}(h:LkN f z i x)(k:Look z i j):LkN f z j x:=by
 refine⟨h.s.trans k.1,?_,?_,?_,?_⟩
 ·rw[h.lo, ← k.1];split
  ·rfl
  ·rename_i e;exact(k.2.1 e).1
 ·rw[h.hi, ← k.1];split
  ·rfl
  ·rename_i e;exact(k.2.2 e).1
 ·have:=h.un
  rw[← k.1];split
  ·rename_i e;rw[if_pos e] at this;exact this
  ·rename_i e;rw[if_neg e] at this;rw[← QK (r:=colB z i) (s:=colB z j) (k.2.1 e).2];exact this
 ·have:=h.be
  rw[← k.1];split
  ·rename_i e;rw[if_pos e] at this;exact this
  ·rename_i e;rw[if_neg e] at this;rw[← QK (r:=rowB z i) (s:=rowB z j) (k.2.2 e).2];exact this
structure Y0 (f:Nm)(g:Key→Option Nat)(z:Sen)(i:Nat):Prop where
 a: ∀j < i,okA z j=true→ ∃x,LkN f z j x∧g x=some (first z j)
 b: ∀x v,g x=some v→ ∃j < i,okA z j=true∧LkN f z j x∧v < i
theorem Y0.zero (f:Nm)(z:Sen):Y0 f (fun _=>none) z 0:=⟨fun j h=>by omega,fun _ _ h=>by cases h⟩
theorem Y0.skip {f:Nm}{g:Key→Option Nat}{z:Sen}{i:Nat}(h:Y0 f g z i)(ho:okA z i=false):first z i=i∧Y0 f g z (i+1):=by
 refine⟨KQ ho,fun j hj hk=> ?_,fun x v e=> ?_⟩
 ·by_cases e:j=i
  ·subst e;rw[ho] at hk;cases hk
  ·exact h.a j (by omega) hk
 ·obtain⟨j,h1,h2,h3,h4⟩:=h.b x v e
  exact⟨j,by omega,h2,h3,by omega⟩
theorem Y0.hit {f f':Nm}{g:Key→Option Nat}{z:Sen}{i m:Nat}(h:Y0 f g z i)(he:Ext f f')(hf:Shelf f' m)(ho:okA z i=true){x:Key}(hx:LkN f' z i x){v:Nat}(hv:g x=some v):v=first z i∧Y0 f' g z (i+1):=by
 obtain⟨j,h1,h2,h3,-⟩:=h.b x v hv
 obtain⟨y,h4,h5⟩:=h.a j h1 h2
 obtain rfl:=h3.fn h4
 have hl:=(h3.mono he).look hf hx
 have hfi:=YZ ho h2 hl h1
 have hvv:v=first z i:=by rw[hfi];exact Option.some.inj (hv.symm.trans h5)
 refine⟨hvv,fun k hk hko=> ?_,fun x' v' e=> ?_⟩
 ·by_cases e:k=i
  ·subst e;exact⟨x,hx,by rw[hv,hvv]⟩
  ·obtain⟨x',g1,g2⟩:=h.a k (by omega) hko
   exact⟨x',g1.mono he,g2⟩
 ·obtain⟨k,g1,g2,g3,g4⟩:=h.b x' v' e
  exact⟨k,by omega,g2,g3.mono he,by omega⟩
theorem Y0.miss {f f':Nm}{g:Key→Option Nat}{z:Sen}{i:Nat}(h:Y0 f g z i)(he:Ext f f')(ho:okA z i=true){x:Key}(hx:LkN f' z i x)(hv:g x=none):first z i=i∧Y0 f' (putF g x i) z (i+1):=by
 have hfi:first z i=i:=YY fun j hj hjo hl=>by(
 obtain⟨y,h4,h5⟩:=h.a j hj hjo
 have:=((h4.mono he).of hl).fn hx
 rw[this,hv] at h5
 cases h5)
 refine⟨hfi,fun k hk hko=> ?_,fun x' v' e=> ?_⟩
 ·(
 by_cases e:k=i
 ·subst e;exact⟨x,hx,by rw[Vx,hfi]⟩
 ·(
 obtain⟨x',g1,g2⟩:=h.a k (by omega) hko
 refine⟨x',g1.mono he,?_⟩
 rw[VA]
 ·exact g2
 ·rintro rfl;rw[hv] at g2;cases g2))
 ·(
 by_cases e':x'=x
 ·subst e'
  rw[Vx] at e
  exact⟨i,by omega,ho,hx,by have:=Option.some.inj e;omega⟩
 ·rw[VA e'] at e
  obtain⟨k,g1,g2,g3,g4⟩:=h.b x' v' e
  exact⟨k,by omega,g2,g3.mono he,by omega⟩)
noncomputable def alF (z:Sen):List Nat:=if Zn z=true then(List.range z.p.length).map (first z) else []
def fixB (S:Bo.Sr)(z:Sen)(i:Nat):Bool:=
 if sd z i=0 then(List.range z.p.length).all fun k=> !bb z k i||S.below (hg z k) (lw z i)
 else if sd z i=1 then(List.range z.p.length).all fun k=> !bb z i k||S.below (hg z i) (lw z k)
 else decide (hg z i=lw z i)
def valF (z:Sen)(i:Nat):Nat:=if sd z i=1 then hg z i else lw z i
def fixF (S:Bo.Sr)(z:Sen):List Bool:=if Zn z=true then(List.range z.p.length).map (fixB S z) else []
def fvF (S:Bo.Sr)(z:Sen):List Nat:=if Zn z=true then(List.range z.p.length).map (fun i=>if fixB S z i=true then valF z i else 0) else []
theorem ZbE {n:Nat}{f g:Nat→Bool}(h: ∀k < n,f k=g k):(List.range n).all f=(List.range n).all g:=by
 rw[Bool.eq_iff_iff,List.all_eq_true,List.all_eq_true]
 exact⟨fun a k hk=>(h k (List.mem_range.1 hk))▸a k hk,fun a k hk=>(h k (List.mem_range.1 hk)).symm▸a k hk⟩
theorem ZiD {S:Bo.Sr}{z:Sen}{i j:Nat}(h:Look z i j):fixB S z i=fixB S z j∧valF z i=valF z j:=by
 obtain⟨hs,h1,h2⟩:=h
 unfold fixB valF
 rw[← hs]
 by_cases e0:sd z i=0
 ·(
 rw[if_pos e0,if_pos e0,if_neg (by omega),if_neg (by omega)]
 obtain⟨a,b⟩:=h1 (by omega)
 refine⟨?_,a⟩
 rw[a]
 exact ZbE fun k hk=>by rw[b k hk])
 ·(
 by_cases e1:sd z i=1
 ·(
 rw[if_neg e0,if_neg e0,if_pos e1,if_pos e1,if_pos e1,if_pos e1]
 obtain⟨a,b⟩:=h2 (by omega)
 refine⟨?_,a⟩
 rw[a]
 exact ZbE fun k hk=>by rw[b k hk])
 ·rw[if_neg e0,if_neg e0,if_neg e1,if_neg e1,if_neg e1,if_neg e1]
  rw[(h1 e1).1,(h2 e0).1]
  exact⟨rfl,rfl⟩)
end Go.Proofs.YtmejhedegmjboaaGreat.I
namespace Go.Proofs.YtmejhedegmjboaaGreat.I
open Go.RowKit
def ZT {α:Type}(en:α→Value)(K E:TypeId)(q:IntKind)(w:World)(b m:Nat)(f:α→Option Nat):Prop:=
 ∃D:DataW Unit,w.ownsMap Tryz.prog K (plainElem Tryz.prog E) b m D∧Maps.size D=m∧ ∀x l,keyOf Tryz.prog K (en x)=some l→Maps.has D l=(f x).isSome∧D.atKey l (.lit (.int q 0))= .lit (.int q (((f x).getD 0:Nat):Int))
section
variable {α:Type} {en:α→Value} {K E:TypeId} {q:IntKind} {w w':World} {b m:Nat} {f:α→Option Nat}
theorem ZT.move (h:ZT en K E q w b m f)(e:w'.heap[b]?=w.heap[b]?):ZT en K E q w' b m f:=by
 obtain⟨D,⟨es,clock,hb,r⟩,h2⟩:=h
 exact⟨D,⟨es,clock,e.trans hb,r⟩,h2⟩
theorem ZT.lt (h:ZT en K E q w b m f):b < w.heap.size:=by
 obtain⟨D,h1,_⟩:=h
 exact h1.lt
theorem ZT.below (h:ZT en K E q w b m f)(hb:Below w.heap.size w w'):ZT en K E q w' b m f:=h.move (hb.block _ h.lt)
theorem ZT.kept {D:Nat→Prop}(h:ZT en K E q w b m f)(hb:Kept D w w')(hn: ¬D b):ZT en K E q w' b m f:=h.move (hb.block _ h.lt hn)
theorem ZT.made (w:World):ZT en K E q (w.alloc (.map #[] 0)) w.heap.size 0 (fun _=>none):=
 ⟨.map [],World.ownsMap_made _ _ _ _,rfl,fun _ _ _=>⟨rfl,rfl⟩⟩
end
section
variable {α:Type} {en:α→Value} {K E:TypeId} {q:IntKind} {w:World} {b n:Nat} {f:α→Option Nat} {ops:Array Oper} {rest:List Oper} {o:Oper} {a:Act} {Q:Exit→Act→World→Prop}
theorem QM (hg:o.guard=none)(m x:Operand)(t:TypeId)(hop:o.op=Op.lookup t m x false)(Kd:Maps.Keyed Tryz.prog K)(ht:Tryz.prog.underlying t=some (.map K E))(he:Tryz.prog.underlying E=some (.int q))(hz: ∀w,(zeroValue E).run Tryz.prog w= .ok (.int q 0) w)
  (h:ZT en K E q w b n f) (hm:a.eval m= .map (some b)) (k:α) (hx:a.eval x=en k) (hkey: ∃l,keyOf Tryz.prog K (en k)=some l) (y:Nat) (hy:(f k).getD 0=y) (hK:wpList Tryz.prog ops Q rest (a.put o.dst (.int q (y:Int))) w):wpList Tryz.prog ops Q (o::rest) a w:=by
 obtain⟨D,h1,-,h2⟩:=h
 obtain⟨l,hl⟩:=hkey
 refine wpList_lookup_own_int w hg m x t hop K E q Kd ht he (hz w) b n D hm h1 (en k) l hx hl fun c hc _=> ?_
 rw[(h2 k l hl).2] at hc
 injection hc with hc
 injection hc with _ hc
 rw[← hc,hy]
 exact hK
theorem VC (hg:o.guard=none)(m x:Operand)(t:TypeId)(hop:o.op=Op.lookup t m x true)(Kd:Maps.Keyed Tryz.prog K)(ht:Tryz.prog.underlying t=some (.map K E))(he:Tryz.prog.underlying E=some (.int q))(hz: ∀w,(zeroValue E).run Tryz.prog w= .ok (.int q 0) w)
  (h:ZT en K E q w b n f) (hm:a.eval m= .map (some b)) (k:α) (hx:a.eval x=en k) (hkey: ∃l,keyOf Tryz.prog K (en k)=some l) (y:Nat) (hy:(f k).getD 0=y) (s:Bool) (hs:(f k).isSome=s) (hK:wpList Tryz.prog ops Q rest (a.put o.dst (.tuple #[.int q (y:Int),.bool s])) w):wpList Tryz.prog ops Q (o::rest) a w:=by
 obtain⟨D,h1,-,h2⟩:=h
 obtain⟨l,hl⟩:=hkey
 refine wpList_lookup_own_ok_int w hg m x t hop K E q Kd ht he (hz w) b n D hm h1 (en k) l hx hl fun c hc _=> ?_
 rw[(h2 k l hl).2] at hc
 injection hc with hc
 injection hc with _ hc
 rw[← hc,(h2 k l hl).1,hy,hs]
 exact hK
theorem ZgL (hg:o.guard=none)(m:Operand)(t:TypeId)(hop:o.op=Op.call {callee:=Callee.builtin Builtin.len,args:= #[m],argTypes:= #[t]})(ht:Tryz.prog.underlying t=some (.map K E))
  (h:ZT en K E q w b n f) (hm:a.eval m= .map (some b)) (hK:wpList Tryz.prog ops Q rest (a.put o.dst (.int .i64 (n:Int))) w):wpList Tryz.prog ops Q (o::rest) a w:=by
 obtain⟨D,h1,hs,-⟩:=h
 refine wpList_len_own w hg m t hop K E ht _ b n D hm h1 ?_
 rw[hs]
 exact hK
theorem Zdt [DecidableEq α] (hg:o.guard=none)(m x v:Operand)(t:TypeId)(hop:o.op=Op.mapUpdate t m x v)(Kd:Maps.Keyed Tryz.prog K)(ht:Tryz.prog.underlying t=some (.map K E))(he:Tryz.prog.underlying E=some (.int q))
  (inj: ∀x y,en x=en y→x=y) (h:ZT en K E q w b n f) (hm:a.eval m= .map (some b)) (k:α) (hx:a.eval x=en k) (hkey: ∃l,keyOf Tryz.prog K (en k)=some l) (z:Nat) (hv:a.eval v= .int q (z:Int)) (hwf:(Lit.int q (z:Int)).wf=true) (hn:n < maxLen) (hno:f k=none)
  (hK: ∀w',ZT en K E q w' b (n+1) (putF f k z)→Kept (· =b) w w'→wpList Tryz.prog ops Q rest (a.put o.dst undef) w'):wpList Tryz.prog ops Q (o::rest) a w:=by
 obtain⟨D,h1,hs,h2⟩:=h
 obtain⟨l,hl⟩:=hkey
 have hT:=h1.tidy Kd
 have hkl:=Kd.key hl
 refine wpList_mapUpdate_own w hg m x v t hop K E Kd ht _ b n D hm h1 hn (en k) _ l hx hv hl (.lit (.int q (z:Int))) [] (plainElem_int he hwf) fun w' h1' hgr=> ?_
 refine hK w' ⟨D.put l (.lit (.int q (z:Int))),h1',?_,fun y l' hl'=> ?_⟩ ⟨hgr.os,hgr.tape,hgr.output,hgr.size,fun i hi hne=>hgr.block i hi fun e=>hne (Option.some.inj e)⟩
 ·rw[Maps.size_put hT,(h2 k l hl).1,hno,hs]
  rfl
 ·(
 by_cases e:l'=l
 ·subst e
  obtain rfl:y=k:=inj _ _ (Kd.inj hl' hl)
  rw[Vx]
  exact⟨Maps.has_put_same hT.isMap hkl _,Maps.atKey_put_same hT.isMap hkl _ _⟩
 ·have hne:y≠k:=fun e'=>by
   subst e'
   rw[hl] at hl'
   exact e (Option.some.inj hl').symm
  rw[VA hne,Maps.has_put_other e,Maps.atKey_put_other e]
  exact h2 y l' hl')
end
theorem Zk9:laidOutB Tryz.prog=true:=by kernel_rfl
def enP (x:Nat×Nat):Value:= .agg #[.int .u64 (x.1:Int),.int .u64 (x.2:Int)]
theorem Zla (x y:Nat×Nat)(h:enP x=enP y):x=y:=by
 obtain⟨a,b⟩:=x
 obtain⟨c,d⟩:=y
 simp[enP] at h
 simp only[Prod.mk.injEq]
 omega
theorem wf64 {a:Nat}(h:a < 18446744073709551616):(Lit.int .u64 (a:Int)).wf=true:=by
 simp[Lit.wf,IntKind.min,IntKind.max,IntKind.signed,IntKind.bits]
 omega
theorem arrP:WideMaps.ArrKey Tryz.prog 241 60 2:=⟨Tryz.underlying241,by kernel_rfl,by kernel_rfl,by kernel_rfl⟩
theorem Zlb:Tryz.prog.types.size=269+1:=by kernel_rfl
theorem keyP {x:Nat×Nat}(h1:x.1 < 18446744073709551616)(h2:x.2 < 18446744073709551616): ∃l,keyOf Tryz.prog 241 (enP x)=some l:=
 ⟨_,WideMaps.keyOf_pair arrP Tryz.underlying60 ⟨269,Zlb⟩ (wf64 h1) (wf64 h2)⟩
theorem lawP:Maps.Keyed Tryz.prog 241:=Maps.Keyed.of_law (deep_law_laid Zk9 (m:=3) (by omega) (of_decide_eq_true (by kernel_rfl)) (by kernel_rfl) (by rw[Tryz.underlying241]))
theorem QN (w:World):(zeroValue 60).run Tryz.prog w= .ok (.int .u64 0) w:=by kernel_rfl
theorem zero3 (w:World):(zeroValue 3).run Tryz.prog w= .ok (.int .i64 0) w:=by kernel_rfl
def enK (x:Key):Value:= .agg #[.int .u8 (x.1:Int),.int .u64 (x.2.1:Int),.int .u64 (x.2.2.1:Int),.int .u64 (x.2.2.2.1:Int),.int .u64 (x.2.2.2.2:Int)]
theorem ZgM (x y:Key)(h:enK x=enK y):x=y:=by
 obtain⟨x1,x2,x3,x4,x5⟩:=x
 obtain⟨y1,y2,y3,y4,y5⟩:=y
 simp[enK] at h
 simp only[Prod.mk.injEq]
 omega
theorem lawK:Maps.Keyed Tryz.prog 202:=Maps.Keyed.of_law (deep_law_laid Zk9 (m:=3) (by omega) (of_decide_eq_true (by kernel_rfl)) (by kernel_rfl) (by rw[Tryz.underlying202]))
theorem ZgN:Tryz.prog.cellsOf 202=5:=by kernel_rfl
theorem Zml:Tryz.prog.keyType 202=true:=by kernel_rfl
theorem wf8 {a:Nat}(h:a < 256):(Lit.int .u8 (a:Int)).wf=true:=by
 simp[Lit.wf,IntKind.min,IntKind.max,IntKind.signed,IntKind.bits]
 omega
theorem cells41:Tryz.prog.cellsOf 65=1:=by kernel_rfl
theorem cells42:Tryz.prog.cellsOf 60=1:=by kernel_rfl
theorem UY {P:Program}{d:Nat}{t:TypeId}{q:IntKind}{a:Int}(h:P.underlying t=some (.int q))(w:(Lit.int q a).wf=true):P.keyLits (d+1) t [.int q a]=some [.int q a]:=by
 unfold Program.keyLits
 simp only[h]
 rw[if_pos ⟨trivial,w⟩]
theorem keyK {x:Key}(h0:x.1 < 256)(h1:x.2.1 < 18446744073709551616)(h2:x.2.2.1 < 18446744073709551616)(h3:x.2.2.2.1 < 18446744073709551616)(h4:x.2.2.2.2 < 18446744073709551616): ∃l,keyOf Tryz.prog 202 (enK x)=some l:=by
 have w0:=wf8 h0
 have w1:=wf64 h1
 have w2:=wf64 h2
 have w3:=wf64 h3
 have w4:=wf64 h4
 refine⟨.string (keyBytes [.int .u8 (x.1:Int),.int .u64 (x.2.1:Int),.int .u64 (x.2.2.1:Int),.int .u64 (x.2.2.2.1:Int),.int .u64 (x.2.2.2.2:Int)]),?_⟩
 unfold keyOf
 simp only[Tryz.underlying202]
 rw[if_pos (by simp[Zml,Value.formed,enK,Tryz.underlying202,ZgN]),Zlb]
 unfold Program.keyLits
 simp only[Tryz.underlying202,enK,Value.cells]
 rw[if_pos (by simp[ZgN])]
 simp only[List.mapM_cons,List.mapM_nil,cells41,cells42,List.drop_zero,List.drop_succ_cons,List.take_succ_cons,List.take_zero]
 rw[UY Tryz.underlying65 w0,UY Tryz.underlying60 w1,UY Tryz.underlying60 w2,UY Tryz.underlying60 w3,UY Tryz.underlying60 w4]
 rfl
end Go.Proofs.YtmejhedegmjboaaGreat.I
namespace Go.Proofs.YtmejhedegmjboaaGreat.I
open Go.RowKit
def HasF (w:World)(F:Nat)(p1 p2:Option Addr)(n:Nat)(r:Nat→Bool):Prop:=
 ∀k:Nat,k < n→Calls Tryz.prog F #[.int .i64 (k:Int),.pointer p1,.pointer p2] w fun e w'=>e= .returned (.bool (r k))∧Below w.heap.size w w'
theorem ZiE (F:Nat)(p1 p2:Option Addr)(s t m:Nat)(r:Nat→Bool)(w:World)(hF:F=153∨F=154)(hst:s≤t)(hm:t≤m)(h64:t≤s+64)(hm6:m≤1000000)(hT: ∀W,Below w.heap.size w W→HasF W F p1 p2 m r):
  Calls Tryz.prog 163 #[.int .i64 (s:Int),.int .i64 (t:Int),.func (.func F) #[] #[.pointer p1,.pointer p2]] w fun e w'=>e= .returned (.int .u64 (La.mk (fun k=>r (s+k)) (t - s):Int))∧Below w.heap.size w w':=by
 have HT:=Hd hT
 have HST:=Hd hst
 have HM:=Hd hm
 have H64:=Hd h64
 have HM6:=Hd hm6
 clear hT hst hm h64 hm6
 rcases hF with rfl|rfl
 all_goals(
 go_enter Tryz.func163,Tryz.ntmps163
 go_wp2
 go_loopw [6,7] (fun v6 v7 wr=> ∃i k:Nat,k=s+i∧v6= .int .u64 (La.mk (fun k=>r (s+k)) i:Int)∧v7= .int .i64 (k:Int)∧k≤t∧Below w.heap.size w wr) (fun _ v7 _=>t - (intOf v7).toNat)
 case atStart=>exact⟨0,s,rfl,rfl,rfl,HST.out,Below.refl _ _⟩
 case round=>
  obtain⟨i,k,hk,rfl,rfl,hkt,hb⟩:=hrel
  by_cases hlt:k < t
  ·(
 have hc:=HT.out _ hb k (by have:=HM.out;omega)
 obtain⟨x,hx⟩: ∃x,r k=x:=⟨_,rfl⟩
 rw[hx] at hc
 have HC:=Hd hc
 have HB:=Hd hb
 have HLT:=Hd hlt
 have HK:=Hd hk
 have hi64:i < 64:=by have:=H64.out;omega
 have hsub:wrap64 ((k:Int) - (s:Int))=(i:Int):=by have:=HM.out;have:=HM6.out;unfold wrap64;omega
 have HSUB:=Hd hsub
 have hp:=La.Ud (k:=i) hi64
 have HNX:Hid (La.mk (fun k=>r (s+k)) (i+1)=if x=true then La.mk (fun k=>r (s+k)) i|||2 ^ i else La.mk (fun k=>r (s+k)) i):=Hd (by
 rw[La.mk]
 show(if r (s+i)=true then _ else _)=_
 rw[← hk,hx])
 have hfit:La.mk (fun k=>r (s+k)) i < 18446744073709551616:=Nat.lt_of_lt_of_le (La.ZeT _ i) (Nat.le_trans (Nat.pow_le_pow_right (by decide) (show i≤64 by omega)) (by decide))
 have hor:=u64_or_nat (La.mk (fun k=>r (s+k)) i) (2 ^ i) hfit (by exact Nat.pow_lt_pow_right (n:=64) (by decide) (by omega))
 generalize La.mk (fun k=>r (s+k)) i=q at*
 generalize 2 ^ i=p at*
 have hi64':(i:Int) < 64:=by omega
 have hkt':(k:Int) < (t:Int):=by omega
 have hk6:k≤1000000:=by have:=HM.out;have:=HM6.out;omega
 clear hc hb hlt hk hx hkt hsub hfit hi64
 go_wp2_with fail
 refine HC.out.mono ?_
 rintro e w1 ⟨rfl,hb1⟩
 have HB1:=Hd (HB.out.trans (hb1.mono HB.out.size))
 clear hb1 HC hkt'
 cases x with
 |false=>(
 go_wp2_with fail
 go_roundw
 case rel=>exact⟨i+1,k+1,by have:=HK.out;omega,by rw[HNX.out];rfl,by go_num,HLT.out,HB1.out⟩
 case measure=>(
 have:=HLT.out
 simp[intOf]
 omega))
 |true=>(
 go_wp2_with (rw[HSUB.out])
 go_roundw
 case rel=>exact⟨i+1,k+1,by have:=HK.out;omega,by rw[HNX.out];rfl,by go_num,HLT.out,HB1.out⟩
 case measure=>(
 have:=HLT.out
 simp[intOf]
 omega)))
  ·obtain rfl:k=t:=by omega
   have HE:Hid (i=k - s):=Hd (by omega)
   clear hlt hk hkt
   go_wp2
   go_ret
   exact⟨by rw[← HE.out];rfl,hb⟩)
theorem V8 (n:Nat):pcs n≤n:=by unfold pcs;omega
theorem Zjr {n j:Nat}:j < pcs n↔64*j < n:=by unfold pcs;omega
theorem Zmm (n:Nat)(r:Nat→Bool)(j:Nat){c t:Nat}(hc:c=64*j)(ht:t=min (c+64) n):La.mk (fun k=>r (c+k)) (t - c)=pcN n r j:=by
 subst hc ht
 rfl
structure ZiF (w w':World)(b m n:Nat)(f:Nm)(j:Nat)(l:List Nat)(a m':Nat)(f':Nm):Prop where
 map:ZT enP 241 60 .u64 w' b m' f'
 sh:Shelf f' m'
 ext:Ext f f'
 dec:Dec f' l a
 le:m'≤m+j
 kept:Kept (· =b) w w'
theorem UZ (F:Nat)(p1 p2:Option Addr)(n b m:Nat)(f:Nm)(r:Nat→Bool)(w:World)(hF:F=153∨F=154)(hn:n≤1000)(hm:m≤1000000)(hM:ZT enP 241 60 .u64 w b m f)(hS:Shelf f m)(hT: ∀W,Kept (· =b) w W→HasF W F p1 p2 n r):
  Calls Tryz.prog 152 #[.map (some b),.int .i64 (n:Int),.func (.func F) #[] #[.pointer p1,.pointer p2]] w fun e w'=> ∃(a m':Nat) (f':Nm),e= .returned (.int .u64 (a:Int))∧ZiF w w' b m n f (pcs n) (pcL n r (pcs n)) a m' f':=by
 have HT:=Hd hT
 have HN:=Hd hn
 have HM:=Hd hm
 have h0:ZiF w w b m n f 0 (pcL n r 0) 0 m f:=⟨hM,hS,Ext.refl _,rfl,Nat.le_refl _,Kept.refl _ _⟩
 have H0:=Hd h0
 have HBT:Hid (∀(W:World) (s t:Nat),Kept (· =b) w W→s≤t→t≤n→t≤s+64→Calls Tryz.prog 163 #[.int .i64 (s:Int),.int .i64 (t:Int),.func (.func F) #[] #[.pointer p1,.pointer p2]] W fun e w'=>e= .returned (.int .u64 (La.mk (fun k=>r (s+k)) (t - s):Int))∧Below W.heap.size W w'):=Hd fun W s t hW h1 h2 h3=>
  ZiE F p1 p2 s t n r W hF h1 h2 h3 (by omega) fun V hV=>hT V (hW.trans (Kept.of_below (D:=(· =b)) hV))
 clear hT hn hm hM hS h0 HT
 go_enter Tryz.func152,Tryz.ntmps152
 go_wp2
 go_loopw [7,8] (fun v7 v8 wr=> ∃(j c a m':Nat) (f':Nm),c=64*j∧v7= .int .u64 (a:Int)∧v8= .int .i64 (c:Int)∧j≤pcs n∧ZiF w wr b m n f j (pcL n r j) a m' f') (fun _ v8 _=>n - (intOf v8).toNat)
 case atStart=>exact⟨0,0,0,m,f,rfl,rfl,rfl,Nat.zero_le _,H0.out⟩
 case round=>(
 obtain⟨j,c,a,m',f',hc,rfl,rfl,hj,hnum⟩:=hrel
 by_cases hlt:c < n
 ·(
 obtain⟨t,ht⟩: ∃t,t=min (c+64) n:=⟨_,rfl⟩
 obtain⟨x,hx⟩: ∃x,La.mk (fun k=>r (c+k)) (t - c)=x:=⟨_,rfl⟩
 have hxp:=Zmm n r j hc ht
 have hcall:=HBT.out wr c t hnum.kept (by omega) (by omega) (by omega)
 rw[hx] at hcall
 rw[hx] at hxp
 have HCALL:=Hd hcall
 have HXP:=Hd hxp
 have HC:=Hd hc
 have HJ:=Hd (show j < pcs n from Zjr.2 (by omega))
 have hcn:(c:Int) < (n:Int):=by omega
 have hn1:=HN.out
 have HNUM:=Hd hnum
 have ha64:a < 18446744073709551616:=by have:=hnum.dec.lt hnum.sh;have:=hnum.le;have:=HM.out;have:=V8 n;omega
 have hx64:x < 18446744073709551616:=hxp▸Zmk n r j
 have HKEY:=Hd (keyP (x:=(a,x)) ha64 hx64)
 have HM6:Hid (m'+1≤2000000):=Hd (by have:=hnum.le;have:=HM.out;have:=V8 n;omega)
 have HWRAP:Hid (IntKind.u64.wrap (m':Int)=(m':Int)):=Hd (Bo.wrap_small (by have:=HM6.out;omega))
 have HWRAP2:Hid (IntKind.u64.wrap ((m':Int)+1)=((m'+1:Nat):Int)):=Hd (by
 have:=Bo.wrap_small (k:=m'+1) (by have:=HM6.out;omega)
 simpa using this)
 obtain⟨tv,htv⟩: ∃tv:Int,(t:Int)=tv:=⟨_,rfl⟩
 rw[htv] at HCALL
 have hcs:((c:Int)+64≤(n:Int)∧tv=(c:Int)+64)∨(¬(c:Int)+64≤(n:Int)∧tv=(n:Int)):=by omega
 have HCN:=Hd hlt
 have hc1:c≤1000:=by omega
 clear ht hx hxp hcall hc hj hnum ha64 hx64 htv hlt
 rcases hcs with⟨hmi,rfl⟩|⟨hmi,rfl⟩
 all_goals(
 go_wp2_with fail
 refine HCALL.out.mono ?_
 rintro e w1 ⟨rfl,hb1⟩
 have HN1:=Hd (HNUM.out.kept.trans (Kept.of_below (D:=(· =b)) hb1))
 have HMP:=Hd (HNUM.out.map.below hb1)
 clear hb1 HCALL hmi
 obtain⟨o,ho⟩: ∃o,f' (a,x)=o:=⟨_,rfl⟩
 have hlt9:b≠w1.heap.size:=fun e=>by have:=HMP.out.lt;omega
 have HMX:=Hd (HMP.out.below (w':=w1.alloc (.cells #[.int .u64 (a:Int),.int .u64 (x:Int)] 241)) (bA))
 have HNX:=Hd ((HN1.out:Kept (· =b) w w1).alloc (.cells #[.int .u64 (a:Int),.int .u64 (x:Int)] 241))
 have HO:=Hd ho
 have HL9:=Hd hlt9
 clear ho hlt9
 cases o with
 |some v=>(
 have hv0:((v:Int)==0)=false:=by(
 have:=HNUM.out.sh.pos _ _ HO.out
 rw[beq_eq_false_iff_ne]
 omega)
 go_wp2_with (first
  |(at_lookup;refine QM rfl _ _ 199 rfl lawP Tryz.underlying199 Tryz.underlying60 QN HMX.out rfl (a,x) rfl HKEY.out v (by rw[HO.out];rfl) ?_)
  |fail)
 go_roundw
 case rel=>exact⟨j+1,c+64,v,m',f',by have:=HC.out;omega,rfl,by go_num,HJ.out,⟨HMX.out,HNUM.out.sh,HNUM.out.ext,⟨a,HNUM.out.dec,by rw[← HXP.out];exact HO.out⟩,by have:=HNUM.out.le;omega,HNX.out⟩⟩
 case measure=>(
 have:=HCN.out
 simp[intOf]
 omega))
 |none=>
  have hsh:=HNUM.out.sh.put HO.out
  have HSH:=Hd hsh
  clear hsh
  go_wp2_with (first
   |(at_lookup;refine QM rfl _ _ 199 rfl lawP Tryz.underlying199 Tryz.underlying60 QN HMX.out rfl (a,x) rfl HKEY.out 0 (by rw[HO.out];rfl) ?_)
   |(at_len;refine ZgL rfl _ 199 rfl Tryz.underlying199 HMX.out rfl ?_)
   |(at_mapUpdate;refine Zdt rfl _ _ _ 199 rfl lawP Tryz.underlying199 Tryz.underlying60 Zla HMX.out rfl (a,x) rfl HKEY.out (m'+1) rfl (wf64 (by have:=HM6.out;omega)) (by have:=HM6.out;unfold maxLen;omega) HO.out ?_;intro w2 hm2 hk2;have HM2:=Hd hm2;have HK2:=Hd (HNX.out.trans hk2);have e9:w2.heap[w1.heap.size]?=some (.cells #[.int .u64 (a:Int),.int .u64 (x:Int)] 241 (0,0)):=(hk2.block w1.heap.size (by rw[World.size_alloc];omega) (fun e=>HL9.out e.symm)).trans (heap_alloc_new w1 _);have q0:=(Zb (i:=0) e9).trans rfl;have q1:=(Zb (i:=1) e9).trans rfl;clear hm2 hk2 e9 HMX)
   |(at_lookup;refine QM rfl _ _ 199 rfl lawP Tryz.underlying199 Tryz.underlying60 QN HM2.out rfl (a,x) rfl HKEY.out (m'+1) (by rw[Vx];rfl) ?_)
   |rw[HWRAP.out]|rw[HWRAP2.out])
  go_roundw
  case rel=>exact⟨j+1,c+64,m'+1,m'+1,putF f' (a,x) (m'+1),by have:=HC.out;omega,by go_num,by go_num,HJ.out,⟨HM2.out,HSH.out.1,HNUM.out.ext.trans HSH.out.2,⟨a,HNUM.out.dec.mono HSH.out.2,by rw[← HXP.out];exact Vx _ _ _⟩,by have:=HNUM.out.le;omega,HK2.out⟩⟩
  case measure=>
   have:=HCN.out
   simp[intOf]
   omega))
 ·obtain rfl:pcs n=j:=by
   have h1:=Zjr (n:=n) (j:=j)
   have: ¬j < pcs n:=fun h=>hlt (by rw[hc];exact h1.1 h)
   omega
  have HNUM:=Hd hnum
  have hcn: ¬(c:Int) < (n:Int):=by omega
  clear hlt hj hc hnum
  go_wp2
  go_ret
  exact⟨a,rfl,m',f',HNUM.out⟩)
end Go.Proofs.YtmejhedegmjboaaGreat.I
namespace Go.Proofs.YtmejhedegmjboaaGreat.I
open Go.RowKit
theorem Znf {z:Sen}{i j:Nat}(h:i < z.be.length)(g:j < z.be[i].length):bb z i j=z.be[i][j]:=by
 unfold bb
 simp[List.getD_eq_getElem?_getD,List.getElem?_eq_getElem h,List.getElem?_eq_getElem g]
structure ZB (w:World)(g:Nat)(A1:Option Addr)(n1 c1:Nat)(A2:Option Addr)(n2 c2:Nat)(A3:Option Addr)(n3 c3:Nat)(A4:Option Addr)(n4 c4:Nat):Prop where
 p0:w.cell? ⟨g,0,none⟩=some (.slice A1 n1 c1)
 p1:w.cell? ⟨g,1,none⟩=some (.slice A2 n2 c2)
 p2:w.cell? ⟨g,2,none⟩=some (.slice A3 n3 c3)
 p3:w.cell? ⟨g,3,none⟩=some (.slice A4 n4 c4)
theorem ZB.keep {w W:World}{g:Nat}{A1:Option Addr}{n1 c1:Nat}{A2:Option Addr}{n2 c2:Nat}{A3:Option Addr}{n3 c3:Nat}{A4:Option Addr}{n4 c4:Nat}(h:ZB w g A1 n1 c1 A2 n2 c2 A3 n3 c3 A4 n4 c4)(hb:Below w.heap.size w W):ZB W g A1 n1 c1 A2 n2 c2 A3 n3 c3 A4 n4 c4:=
 ⟨Za h.p0 hb,Za h.p1 hb,Za h.p2 hb,Za h.p3 hb⟩
theorem ZB.of {w:World}{g:Nat}{A1:Option Addr}{n1 c1:Nat}{A2:Option Addr}{n2 c2:Nat}{A3:Option Addr}{n3 c3:Nat}{A4:Option Addr}{n4 c4:Nat}(h:w.heap[g]?=some (.cells #[.slice A1 n1 c1,.slice A2 n2 c2,.slice A3 n3 c3,.slice A4 n4 c4] 28 (0,0))):ZB w g A1 n1 c1 A2 n2 c2 A3 n3 c3 A4 n4 c4:=
 ⟨(Zb (i:=0) h).trans rfl,(Zb (i:=1) h).trans rfl,(Zb (i:=2) h).trans rfl,(Zb (i:=3) h).trans rfl⟩
theorem Vp {w:World}{z:Sen}{A1:Option Addr}{n1 c1:Nat}{A2:Option Addr}{n2 c2:Nat}{A3:Option Addr}{n3 c3:Nat}{A4:Option Addr}{n4 c4:Nat}(h:Zx w z A1 n1 c1 A2 n2 c2 A3 n3 c3 A4 n4 c4)(hw:Zn z=true){i j:Nat}(hi:i < z.p.length)(hj:j < z.p.length):
  ∃b o b' o' y,A4=some ⟨b,o,none⟩∧w.cell? ⟨b,o+i,none⟩=some (.slice (some ⟨b',o',none⟩) n1 y)∧w.cell? ⟨b',o'+j,none⟩=some (.bool (bb z i j)):=by
 obtain⟨a1,a2,a3,a4,a5⟩:=ZE.1 hw
 have hil:i < z.be.length:=by omega
 have hrl:=a5 _ (List.getElem_mem hil)
 have hjl:j < z.be[i].length:=by omega
 obtain⟨b,o,b',o',y,e1,-,e2,-,e3⟩:=h.rb.at' hil hjl
 rw[hrl,h.rp.len] at e2
 exact⟨b,o,b',o',y,e1,e2,by rw[Znf hil hjl];exact e3⟩
theorem Zdu (g gi i k:Nat)(z:Sen)(A1:Option Addr)(n1 c1:Nat)(A2:Option Addr)(n2 c2:Nat)(A3:Option Addr)(n3 c3:Nat)(A4:Option Addr)(n4 c4:Nat)(w:World)(h:Zx w z A1 n1 c1 A2 n2 c2 A3 n3 c3 A4 n4 c4)(hz:ZB w g A1 n1 c1 A2 n2 c2 A3 n3 c3 A4 n4 c4)(hg:w.cell? ⟨gi,0,none⟩=some (.int .i64 (i:Int)))(hw:Zn z=true)(hi:i < n1)(hk:k < n1):
  Calls Tryz.prog 153 #[.int .i64 (k:Int),.pointer (some ⟨g,0,none⟩),.pointer (some ⟨gi,0,none⟩)] w fun e w'=>e= .returned (.bool (colB z i k))∧Below w.heap.size w w':=by
 have hl:=h.rp.len
 obtain⟨a1,a2,a3,a4,a5⟩:=ZE.1 hw
 have hn4:=h.rb.len
 obtain⟨b,o,b',o',y,rfl,e1,e2⟩:=Vp h hw (i:=k) (j:=i) (by omega) (by omega)
 have p3:=hz.p3
 have hkn:(k:Int) < (n4:Int):=by omega
 have hin:(i:Int) < (n1:Int):=by omega
 unfold colB
 generalize bb z k i=r at*
 clear h hz hw a1 a2 a3 a4 a5 hl hn4
 go_enter Tryz.func153,Tryz.ntmps153
 go_wp2
 go_still_tail 7,(by kernel_rfl)
 go_wp2
 go_ret
 exact⟨rfl,(Below.refl _ _).drew⟩
theorem Zdv (g gi i k:Nat)(z:Sen)(A1:Option Addr)(n1 c1:Nat)(A2:Option Addr)(n2 c2:Nat)(A3:Option Addr)(n3 c3:Nat)(A4:Option Addr)(n4 c4:Nat)(w:World)(h:Zx w z A1 n1 c1 A2 n2 c2 A3 n3 c3 A4 n4 c4)(hz:ZB w g A1 n1 c1 A2 n2 c2 A3 n3 c3 A4 n4 c4)(hg:w.cell? ⟨gi,0,none⟩=some (.int .i64 (i:Int)))(hw:Zn z=true)(hi:i < n1)(hk:k < n1):
  Calls Tryz.prog 154 #[.int .i64 (k:Int),.pointer (some ⟨g,0,none⟩),.pointer (some ⟨gi,0,none⟩)] w fun e w'=>e= .returned (.bool (rowB z i k))∧Below w.heap.size w w':=by
 have hl:=h.rp.len
 obtain⟨a1,a2,a3,a4,a5⟩:=ZE.1 hw
 have hn4:=h.rb.len
 obtain⟨b,o,b',o',y,rfl,e1,e2⟩:=Vp h hw (i:=i) (j:=k) (by omega) (by omega)
 have p3:=hz.p3
 have hkn:(i:Int) < (n4:Int):=by omega
 have hin:(k:Int) < (n1:Int):=by omega
 unfold rowB
 generalize bb z i k=r at*
 clear h hz hw a1 a2 a3 a4 a5 hl hn4
 go_enter Tryz.func154,Tryz.ntmps154
 go_wp2
 go_ret
 exact⟨rfl,Below.refl _ _⟩
theorem VY (v:Value)(S:Bo.Sr)(x y:Nat)(w:World)(hs:Bo.VH w v S)(hx:x < 18446744073709551616)(hy:y < 18446744073709551616)(r:Bool)(hr:S.below x y=r):
  Calls Tryz.prog 128 #[v,.int .u64 (x:Int),.int .u64 (y:Int)] w fun e w'=>e= .returned (.bool r)∧Below w.heap.size w w':=by
 rcases hs with⟨rfl,rfl⟩|hs
 ·(
 obtain rfl:false=r:=hr
 clear hx hy
 go_enter Tryz.func128,Tryz.ntmps128
 go_wp2
 go_ret
 exact⟨rfl,Below.refl _ _⟩)
 ·(
 rcases hs with⟨a,rfl,hA⟩|⟨a,rfl,hA⟩|⟨rfl,hA⟩
 all_goals(
 have hc:=hA.below w (Below.refl _ _) x y hx hy
 rw[hr] at hc
 have HC:=Hd hc
 clear hA hx hy hc
 go_enter Tryz.func128,Tryz.ntmps128
 go_wp2_with fail
 refine HC.out.mono ?_
 rintro e w1 ⟨rfl,hb⟩
 have HB:=Hd hb
 clear hb HC
 go_wp2_with fail
 go_ret
 exact⟨rfl,HB.out⟩))
end Go.Proofs.YtmejhedegmjboaaGreat.I
namespace Go.Proofs.YtmejhedegmjboaaGreat.I
open Go.RowKit
theorem ZiG {α:Type}{en:α→Value}{K E:TypeId}{q:IntKind}{w:World}{b m:Nat}{f:α→Option Nat}(h:ZT en K E q w b m f){p:Addr}{v:Value}(hc:w.cell? p=some v):p.block≠b:=by
 obtain⟨D,⟨es,clock,hb,r⟩,h2⟩:=h
 intro e
 unfold World.cell? at hc
 rw[e,hb] at hc
 cases hc
theorem cell_kept {α:Type}{en:α→Value}{K E:TypeId}{q:IntKind}{w w':World}{b m:Nat}{f:α→Option Nat}(h:ZT en K E q w b m f)(hk:Kept (· =b) w w'){p:Addr}{v:Value}(hc:w.cell? p=some v):w'.cell? p=some v:=
 (hk.cell (World.block_lt_of_cell? w p hc) (ZiG h hc)).trans hc
theorem ZB.kept {α:Type}{en:α→Value}{K E:TypeId}{q:IntKind}{w w':World}{b m:Nat}{f:α→Option Nat}(hM:ZT en K E q w b m f)(hk:Kept (· =b) w w'){g:Nat}{A1:Option Addr}{n1 c1:Nat}{A2:Option Addr}{n2 c2:Nat}{A3:Option Addr}{n3 c3:Nat}{A4:Option Addr}{n4 c4:Nat}(h:ZB w g A1 n1 c1 A2 n2 c2 A3 n3 c3 A4 n4 c4):ZB w' g A1 n1 c1 A2 n2 c2 A3 n3 c3 A4 n4 c4:=
 ⟨cell_kept hM hk h.p0,cell_kept hM hk h.p1,cell_kept hM hk h.p2,cell_kept hM hk h.p3⟩
structure LkIs (w w':World)(b m n:Nat)(f:Nm)(z:Sen)(i:Nat)(x:Key)(m':Nat)(f':Nm):Prop where
 map:ZT enP 241 60 .u64 w' b m' f'
 sh:Shelf f' m'
 ext:Ext f f'
 is:LkN f' z i x
 le:m'≤m+2*n
 kept:Kept (· =b) w w'
 x0:x.1≤2
 x1:x.2.1 < 18446744073709551616
 x2:x.2.2.1 < 18446744073709551616
 x3:x.2.2.2.1 < 18446744073709551616
 x4:x.2.2.2.2 < 18446744073709551616
structure LkR (w:World)(g gi gl j i:Nat)(A:Option Addr)(n c o v:Nat):Prop where
 a:w.cell? ⟨g,j,none⟩=some (.slice A n c)
 ii:w.cell? ⟨gi,0,none⟩=some (.int .i64 (i:Int))
 v:w.cell? ⟨gl,o+i,none⟩=some (.int .u64 (v:Int))
theorem ZaE {z:Sen}{i:Nat}(h:i < z.p.length):sd z i=z.p[i].s:=by
 unfold sd
 rw[List.getD_eq_getElem?_getD,List.getElem?_eq_getElem h]
 rfl
theorem KA {z:Sen}{i:Nat}(h:i < z.lo.length):lw z i=z.lo[i]:=by
 unfold lw
 rw[List.getD_eq_getElem?_getD,List.getElem?_eq_getElem h]
 rfl
theorem Y1 {z:Sen}{i:Nat}(h:i < z.hi.length):hg z i=z.hi[i]:=by
 unfold hg
 rw[List.getD_eq_getElem?_getD,List.getElem?_eq_getElem h]
 rfl
theorem ZG {w:World}{B:Nat}{A:Option Addr}{n c:Nat}{l:List Nat}(h:Rd La.nm w B A n c l)(hf:La.Fit l){i:Nat}(hi:i < l.length): ∃b o,A=some ⟨b,o,none⟩∧w.cell? ⟨b,o+i,none⟩=some (.int .u64 (l[i]:Int))∧l[i] < 18446744073709551616:=by
 obtain⟨b,o,e,-,hc⟩:=h.spot (by have:=h.len;omega)
 exact⟨b,o,e,hc i hi,hf.get i hi⟩
abbrev lkC (x0 x1 x2 x3 x4:Nat):Array Value:= #[.int .u8 (x0:Int),.int .u64 (x1:Int),.int .u64 (x2:Int),.int .u64 (x3:Int),.int .u64 (x4:Int)]
def set5 (w:World)(g:Nat)(a b c d e:Value):World:=((((w.setCell ⟨g,0,none⟩ a).setCell ⟨g,1,none⟩ b).setCell ⟨g,2,none⟩ c).setCell ⟨g,3,none⟩ d).setCell ⟨g,4,none⟩ e
structure LkS (w W:World)(b m:Nat)(f:Nm)(i g gi gr q:Nat)(A1:Option Addr)(n1 c1:Nat)(p1 o1 n2 c2 v p2 o2 n3 c3 t:Nat)(A4:Option Addr)(n4 c4:Nat)(cs:Array Value)(m':Nat)(f':Nm):Prop where
 zb:ZB W g A1 n1 c1 (some ⟨p1,o1,none⟩) n2 c2 (some ⟨p2,o2,none⟩) n3 c3 A4 n4 c4
 ci:W.cell? ⟨gi,0,none⟩=some (.int .i64 (i:Int))
 ev:W.cell? ⟨p1,o1+i,none⟩=some (.int .u64 (v:Int))
 eh:W.cell? ⟨p2,o2+i,none⟩=some (.int .u64 (t:Int))
 kr:W.heap[gr]?=some (.cells (lkC 0 0 0 0 0) 202 (0,0))
 kq:W.heap[q]?=some (.cells cs 202 (0,0))
 map:ZT enP 241 60 .u64 W b m' f'
 sh:Shelf f' m'
 ext:Ext f f'
 kept:Kept (· =b) w W
 hq:w.heap.size≤q∧b < w.heap.size∧b≠gr∧w.heap.size≤gr∧q≠g∧q≠gi∧q≠gr∧q≠p1∧q≠p2
section
variable {w W W':World} {b m:Nat} {f:Nm} {i g gi gr q:Nat} {A1:Option Addr} {n1 c1:Nat} {p1 o1 n2 c2 v p2 o2 n3 c3 t:Nat} {A4:Option Addr} {n4 c4:Nat} {cs:Array Value} {m':Nat} {f':Nm} (h:LkS w W b m f i g gi gr q A1 n1 c1 p1 o1 n2 c2 v p2 o2 n3 c3 t A4 n4 c4 cs m' f')
include h
theorem LkS.num {n j a m2:Nat}{l:List Nat}{f2:Nm}(k:ZiF W W' b m' n f' j l a m2 f2):LkS w W' b m f i g gi gr q A1 n1 c1 p1 o1 n2 c2 v p2 o2 n3 c3 t A4 n4 c4 cs m2 f2:=
 ⟨h.zb.kept h.map k.kept,cell_kept h.map k.kept h.ci,cell_kept h.map k.kept h.ev,cell_kept h.map k.kept h.eh,(k.kept.block _ (Zh h.kr) h.hq.2.2.1.symm).trans h.kr,(k.kept.block _ (Zh h.kq) (by have:=h.hq;omega)).trans h.kq,k.map,k.sh,h.ext.trans k.ext,h.kept.trans k.kept,h.hq⟩
theorem LkS.drew:LkS w W.drew b m f i g gi gr q A1 n1 c1 p1 o1 n2 c2 v p2 o2 n3 c3 t A4 n4 c4 cs m' f':=
 ⟨⟨h.zb.p0,h.zb.p1,h.zb.p2,h.zb.p3⟩,h.ci,h.ev,h.eh,h.kr,h.kq,h.map.move rfl,h.sh,h.ext,h.kept.drew,h.hq⟩
theorem LkS.set (j:Nat)(u:Value):LkS w (W.setCell ⟨q,j,none⟩ u) b m f i g gi gr q A1 n1 c1 p1 o1 n2 c2 v p2 o2 n3 c3 t A4 n4 c4 (cs.setIfInBounds j u) m' f':=by
 obtain⟨g0,g1,g2,-,g3,g4,g5,g6,g7⟩:=h.hq
 have off: ∀{p:Addr},p.block≠q→(W.setCell ⟨q,j,none⟩ u).cell? p=W.cell? p:=fun {p} hp=>World.cell?_of_block (Below.heap_setCell W ⟨q,j,none⟩ u p.block hp)
 exact⟨⟨(off (Ne.symm g3)).trans h.zb.p0,(off (Ne.symm g3)).trans h.zb.p1,(off (Ne.symm g3)).trans h.zb.p2,(off (Ne.symm g3)).trans h.zb.p3⟩,(off (Ne.symm g4)).trans h.ci,(off (Ne.symm g6)).trans h.ev,(off (Ne.symm g7)).trans h.eh,(Below.heap_setCell W ⟨q,j,none⟩ u gr (Ne.symm g5)).trans h.kr,Zm h.kq u,h.map.move (Below.heap_setCell W ⟨q,j,none⟩ u b (by show b≠q;omega)),h.sh,h.ext,h.kept.setCell (p:=⟨q,j,none⟩) (.inr g0) u,h.hq⟩
theorem LkS.done (x0 x1 x2 x3 x4:Value):ZT enP 241 60 .u64 (set5 W gr x0 x1 x2 x3 x4) b m' f'∧Kept (· =b) w (set5 W gr x0 x1 x2 x3 x4)∧(set5 W gr x0 x1 x2 x3 x4).heap[gr]?=some (.cells #[x0,x1,x2,x3,x4] 202 (0,0)):=by
 obtain⟨-,-,g2,g3,-⟩:=h.hq
 refine⟨h.map.move ?_,?_,?_⟩
 ·unfold set5
  exact(Below.heap_setCell _ _ _ b g2).trans ((Below.heap_setCell _ _ _ b g2).trans ((Below.heap_setCell _ _ _ b g2).trans ((Below.heap_setCell _ _ _ b g2).trans (Below.heap_setCell _ _ _ b g2))))
 ·exact((((h.kept.setCell (p:=⟨gr,0,none⟩) (.inr g3) x0).setCell (p:=⟨gr,1,none⟩) (.inr g3) x1).setCell (p:=⟨gr,2,none⟩) (.inr g3) x2).setCell (p:=⟨gr,3,none⟩) (.inr g3) x3).setCell (p:=⟨gr,4,none⟩) (.inr g3) x4
 ·exact Zm (Zm (Zm (Zm (Zm h.kr x0) x1) x2) x3) x4
theorem LkS.low:LkR W g gi p1 1 i (some ⟨p1,o1,none⟩) n2 c2 o1 v:=⟨h.zb.p1,h.ci,h.ev⟩
theorem LkS.high:LkR W g gi p2 2 i (some ⟨p2,o2,none⟩) n3 c3 o2 t:=⟨h.zb.p2,h.ci,h.eh⟩
end
theorem Zdw (i b m:Nat)(f:Nm)(z:Sen)(A1:Option Addr)(n1 c1:Nat)(A2:Option Addr)(n2 c2:Nat)(A3:Option Addr)(n3 c3:Nat)(A4:Option Addr)(n4 c4:Nat)(w:World)(hw:Zn z=true)(hi:i < n1)(hn:n1≤1000)(hm:m≤900000)(hM:ZT enP 241 60 .u64 w b m f)(hS:Shelf f m)
  (hsen: ∀W,Kept (· =b) w W→Zx W z A1 n1 c1 A2 n2 c2 A3 n3 c3 A4 n4 c4):
  Calls Tryz.prog 127 #[.map (some b),senV A1 n1 c1 A2 n2 c2 A3 n3 c3 A4 n4 c4,.int .i64 (i:Int)] w fun e w'=> ∃(x:Key) (m':Nat) (f':Nm),e= .returned (enK x)∧LkIs w w' b m n1 f z i x m' f':=by
 have h:=hsen w (Kept.refl _ _)
 obtain⟨a1,a2,a3,a4,a5⟩:=ZE.1 hw
 have hlen:=h.rp.len
 have hl2:=h.rl.len
 have hl3:=h.rh.len
 have hip:i < z.p.length:=by omega
 have hil:i < z.lo.length:=by omega
 have hih:i < z.hi.length:=by omega
 have hs2:=a4 _ (List.getElem_mem hip)
 have HSD:=Hd (ZaE hip)
 have HLW:=Hd (KA hil)
 have HHG:=Hd (Y1 hih)
 have HLEN:=Hd hlen
 obtain⟨x,hx⟩: ∃x,w.alloc (.cells #[.slice A1 n1 c1,.slice A2 n2 c2,.slice A3 n3 c3,.slice A4 n4 c4] 28)=x:=⟨_,rfl⟩
 obtain⟨y,hy⟩: ∃y,x.alloc (.cells #[.int .i64 (i:Int)] 3)=y:=⟨_,rfl⟩
 obtain⟨u,hu⟩: ∃u,y.alloc (.cells #[.int .u8 0,.int .u64 0,.int .u64 0,.int .u64 0,.int .u64 0] 202)=u:=⟨_,rfl⟩
 have b0:Below w.heap.size w x:=hx▸bA
 have sx:x.heap.size=w.heap.size+1:=by rw[← hx,World.size_alloc]
 have b1:Below x.heap.size x y:=hy▸bA
 have sy:y.heap.size=w.heap.size+1+1:=by rw[← hy,World.size_alloc,sx]
 have b2:Below y.heap.size y u:=hu▸bA
 have su:u.heap.size=w.heap.size+1+1+1:=by rw[← hu,World.size_alloc,sy]
 have k0:u.heap[w.heap.size]?=some (.cells #[.slice A1 n1 c1,.slice A2 n2 c2,.slice A3 n3 c3,.slice A4 n4 c4] 28 (0,0)):=(b2.block _ (by rw[sy];omega)).trans ((b1.block _ (by rw[sx];omega)).trans (hx▸heap_alloc_new w _))
 have k1:u.heap[w.heap.size+1]?=some (.cells #[.int .i64 (i:Int)] 3 (0,0)):=(b2.block _ (by rw[sy];omega)).trans (by rw[← sx, ← hy];exact heap_alloc_new x _)
 have k2:u.heap[w.heap.size+1+1]?=some (.cells (lkC 0 0 0 0 0) 202 (0,0)):=by rw[← sy, ← hu];exact heap_alloc_new y _
 have hb:Below w.heap.size w u:=b0.trans ((b1.trans (b2.mono b1.size)).mono b0.size)
 have hku:Kept (· =b) w u:=Kept.of_below hb
 have HKU:=Hd hku
 have HMU:=Hd (hM.below hb)
 have HSEN:=Hd hsen
 have hzb:=ZB.of k0
 have hci:=(Zb (i:=0) k1).trans rfl
 have HK2:=Hd k2
 have HSU:=Hd su
 have HBLT:=Hd hM.lt
 have hsu:=HSEN.out u hku
 obtain⟨p0,o0,rfl,-,-,-,es,-,-⟩:=Z7 hsu.rp hip
 obtain⟨p1,o1,rfl,ev,fv⟩:=ZG hsu.rl hsu.fl hil
 obtain⟨p2,o2,rfl,eh,fh⟩:=ZG hsu.rh hsu.fh hih
 have HZB:=Hd hzb
 have HCI:=Hd hci
 have HSH:=Hd hS
 have HM9:=Hd hm
 have HN:=Hd hn
 have HI:=Hd hi
 have HW:=Hd hw
 have HP:=Hd (show p0 < u.heap.size∧p1 < u.heap.size∧p2 < u.heap.size from⟨World.block_lt_of_cell? u _ es,World.block_lt_of_cell? u _ ev,World.block_lt_of_cell? u _ eh⟩)
 generalize z.p[i].s=s at*
 generalize z.lo[i]=v at*
 generalize z.hi[i]=t at*
 have HES:=Hd es
 have HEV:=Hd ev
 have HEH:=Hd eh
 have HFV:=Hd fv
 have HFH:=Hd fh
 have HS2:=Hd hs2
 have hin:(i:Int) < (n1:Int):=by omega
 have hin2:(i:Int) < (n2:Int):=by omega
 have hin3:(i:Int) < (n3:Int):=by omega
 clear a1 a2 a3 a4 a5 hlen hl2 hl3 hip hil hih hw hn hm hS h hM hsen hb hku b0 b1 b2 sx sy k0 k1 k2 hsu fv fh hs2 hi
 subst hx hy
 have q0:=hzb.p0
 unfold senV
 go_enter Tryz.func127,Tryz.ntmps127
 go_wp2_with fail
 clear hu
 refine wro [0,1,2,3,4,5,6,7,8,9,10,11,12] [10,12] 12 (fun W=>W.cell? ⟨w.heap.size,0,none⟩=some (.slice (some ⟨p0,o0,none⟩) n1 c1)∧W.cell? ⟨w.heap.size+1,0,none⟩=some (.int .i64 (i:Int))∧W.cell? ⟨p0,o0+i*5+2,none⟩=some (.int .u8 (s:Int))) (by kernel_rfl) (fun _ _ _ _ _ h=>h) ⟨q0,hci,es⟩ ?_
 simp only[steps,sE,sD]
 clear hzb hci es ev eh q0
 repeat((first|refine Zf rfl ?_|(refine Zd (v:= ?_) rfl rfl ?_ ?_;rotate_left;(focus(rintro w' ⟨x0,x1,x2⟩;go_simp;try with_reducible rfl))));simp only[Act.put,sA,sB,sC])
 have HKD:=Hd (HKU.out.drew)
 have HMD:=Hd (show ZT enP 241 60 .u64 u.drew b m f from HMU.out.move rfl)
 have HBD:=Hd (show Below u.heap.size u u.drew from(Below.refl _ _).drew)
 have HSD1:=Hd (show u.drew.heap.size=w.heap.size+1+1+1 from HSU.out)
 generalize World.drew u=w1 at*
 refine Ze rfl rfl (fun K hK=> ?_)
 go_simp
 have hq0:=HZB.out.p0
 have hz0:Below u.heap.size u (w1.alloc (.cells #[.int .u8 0,.int .u64 0,.int .u64 0,.int .u64 0,.int .u64 0] 202)):=HBD.out.trans ((Below.refl _ w1).alloc HBD.out.size _)
 refine hK.out _ _ (fun _=>⟨Za hq0 hz0,Za HCI.out hz0,Za HES.out hz0⟩) ?_
 clear hK K hq0 hz0
 try simp only[Act.put,sA,sB,sC]
 repeat((first|refine Zf rfl ?_|(refine Zd (v:= ?_) rfl rfl ?_ ?_;rotate_left;(focus(rintro w' ⟨x0,x1,x2⟩;go_simp;try with_reducible rfl))));simp only[Act.put,sA,sB,sC])
 refine Ze rfl rfl (fun K hK=> ?_)
 go_simp
 refine hK.out _ _ (fun h=>absurd rfl h) ?_
 clear hK K
 try simp only[Act.put,sA,sB,sC]
 refine Zg ?_
 have hz1:Below u.heap.size u (w1.alloc (.cells #[.int .u8 (s:Int),.int .u64 0,.int .u64 0,.int .u64 0,.int .u64 0] 202)):=HBD.out.trans ((Below.refl _ w1).alloc HBD.out.size _)
 have hn1:=heap_alloc_new w1 (.cells #[.int .u8 (s:Int),.int .u64 0,.int .u64 0,.int .u64 0,.int .u64 0] 202)
 generalize w1.alloc (.cells #[.int .u8 (s:Int),.int .u64 0,.int .u64 0,.int .u64 0,.int .u64 0] 202)=w2 at*
 have HST:Hid (LkS w w2 b m f i w.heap.size (w.heap.size+1) (w.heap.size+1+1) w1.heap.size (some ⟨p0,o0,none⟩) n1 c1 p1 o1 n2 c2 v p2 o2 n3 c3 t A4 n4 c4 (lkC s 0 0 0 0) m f):=Hd ⟨HZB.out.keep hz1,Za HCI.out hz1,Za HEV.out hz1,Za HEH.out hz1,(hz1.block _ (by have:=HSU.out;omega)).trans HK2.out,hn1,HMU.out.below hz1,HSH.out,Ext.refl _,HKU.out.trans (Kept.of_below hz1),by have:=HSD1.out;have:=HSU.out;have:=HBLT.out;have:=HP.out;omega⟩
 have HQ:Hid (u.heap.size≤w1.heap.size):=Hd HBD.out.size
 clear hz1 hn1 HKD HMD HBD HSD1
 generalize w1.heap.size=q at*
 have HLE:Hid (m≤m+0):=Hd lR
 obtain rfl|rfl|rfl:s=0∨s=1∨s=2:=by have:=HS2.out;omega
 (focus(
 have c0:w2.cell? ⟨q,0,none⟩=some (.int .u8 0):=(Zb (i:=0) HST.out.kq).trans rfl
 go_wp2_with fail
 clear c0
 have hst0:=HST.out
 have hsx:=hst0.low
 clear hst0
 refine wro [0,1,2,3,4,5,6,7,9,8,10,11,12] [8,10,12] 12 (fun W=>LkR W w.heap.size (w.heap.size+1) p1 1 i (some ⟨p1,o1,none⟩) n2 c2 o1 v) (by kernel_rfl) (fun _ _ _ _ _ h=>h) ⟨hsx.a,hsx.ii,hsx.v⟩ ?_
 simp only[steps,sE,sD]
 clear hsx
 repeat((first|refine Zf rfl ?_|(refine Zd (v:= ?_) rfl rfl ?_ ?_;rotate_left;(focus(rintro w' ⟨x0,x1,x2⟩;go_simp;try with_reducible rfl))));simp only[Act.put,sA,sB,sC])
 have HSTD:=Hd HST.out.drew
 clear HST
 generalize World.drew _=wd at*
 refine Ze rfl rfl (fun K hK=> ?_)
 go_simp
 have HNB:=Hd (UZ 153 (some ⟨w.heap.size,0,none⟩) (some ⟨w.heap.size+1,0,none⟩) n1 b _ _ (colB z i) wd (by simp) HN.out (by have:=HLE.out;have:=HM9.out;have:=HN.out;have:=V8 n1;omega) HSTD.out.map HSTD.out.sh (fun V hV k hk=>Zdu w.heap.size (w.heap.size+1) i k z _ _ _ _ _ _ _ _ _ _ _ _ V (HSEN.out V (HSTD.out.kept.trans hV)) (HSTD.out.zb.kept HSTD.out.map hV) (cell_kept HSTD.out.map hV HSTD.out.ci) HW.out HI.out hk))
 refine HNB.out.mono ?_
 rintro e w4 ⟨a,m4,f4,rfl,hnum⟩
 have HLE4:=Hd (Nat.le_trans hnum.le (Nat.add_le_add_right HLE.out _))
 have HX49:=Hd (show Ext _ f4∧Dec f4 (pcL n1 (colB z i) (pcs n1)) a from⟨hnum.ext,hnum.dec⟩)
 have HA49:Hid (a < 18446744073709551616):=Hd (by have:=hnum.dec.lt hnum.sh;have:=HLE4.out;have:=HM9.out;have:=HN.out;have:=V8 n1;omega)
 have HST4:=Hd (HSTD.out.num hnum)
 clear hnum HSTD HNB HLE
 have hsx:=HST4.out.low
 refine hK.out _ _ (fun _=>hsx) ?_
 clear hK K hsx
 try simp only[Act.put,sA,sB,sC]
 have e1:w4.cell? ⟨q,1,none⟩=some (.int .u64 0):=(Zb (i:=1) HST4.out.kq).trans rfl
 have f1:w4.frozen? ⟨q,1,none⟩=false:=Zc HST4.out.kq
 refine Ze rfl rfl (fun K hK=> ?_)
 go_simp
 have HST5:=Hd (HST4.out.set 1 (.int .u64 (v:Int)))
 clear HST4 e1 f1
 have hsx:=HST5.out.low
 refine hK.out _ _ (fun _=>hsx) ?_
 clear hK K hsx
 try simp only[Act.put,sA,sB,sC]
 generalize w4.setCell ⟨q,1,none⟩ (.int .u64 (v:Int))=w5 at*
 repeat((first|refine Zf rfl ?_|(refine Zd (v:= ?_) rfl rfl ?_ ?_;rotate_left;(focus(rintro w' ⟨x0,x1,x2⟩;go_simp;try with_reducible rfl))));simp only[Act.put,sA,sB,sC])
 have e1:w5.cell? ⟨q,3,none⟩=some (.int .u64 0):=(Zb (i:=3) HST5.out.kq).trans rfl
 have f1:w5.frozen? ⟨q,3,none⟩=false:=Zc HST5.out.kq
 refine Ze rfl rfl (fun K hK=> ?_)
 go_simp
 have HST6:=Hd (HST5.out.set 3 (.int .u64 (a:Int)))
 clear HST5 e1 f1
 refine hK.out _ _ (fun h=>absurd rfl h) ?_
 clear hK K
 try simp only[Act.put,sA,sB,sC]
 generalize w5.setCell ⟨q,3,none⟩ (.int .u64 (a:Int))=w6 at*
 refine Zg ?_
 have HST:=HST6
 have HLE:=HLE4
 clear HST6 HLE4
 have e0:w6.cell? ⟨q,0,none⟩=some (.int .u8 0):=(Zb (i:=0) HST.out.kq).trans rfl
 have e1:w6.cell? ⟨q,1,none⟩=some (.int .u64 (v:Int)):=(Zb (i:=1) HST.out.kq).trans rfl
 have e2:w6.cell? ⟨q,2,none⟩=some (.int .u64 0):=(Zb (i:=2) HST.out.kq).trans rfl
 have e3:w6.cell? ⟨q,3,none⟩=some (.int .u64 (a:Int)):=(Zb (i:=3) HST.out.kq).trans rfl
 have e4:w6.cell? ⟨q,4,none⟩=some (.int .u64 0):=(Zb (i:=4) HST.out.kq).trans rfl
 have r0:w6.cell? ⟨w.heap.size+1+1,0,none⟩=some (.int .u8 0):=(Zb (i:=0) HST.out.kr).trans rfl
 have z0:w6.frozen? ⟨w.heap.size+1+1,0,none⟩=false:=Zc HST.out.kr
 have r1:w6.cell? ⟨w.heap.size+1+1,1,none⟩=some (.int .u64 0):=(Zb (i:=1) HST.out.kr).trans rfl
 have z1:w6.frozen? ⟨w.heap.size+1+1,1,none⟩=false:=Zc HST.out.kr
 have r2:w6.cell? ⟨w.heap.size+1+1,2,none⟩=some (.int .u64 0):=(Zb (i:=2) HST.out.kr).trans rfl
 have z2:w6.frozen? ⟨w.heap.size+1+1,2,none⟩=false:=Zc HST.out.kr
 have r3:w6.cell? ⟨w.heap.size+1+1,3,none⟩=some (.int .u64 0):=(Zb (i:=3) HST.out.kr).trans rfl
 have z3:w6.frozen? ⟨w.heap.size+1+1,3,none⟩=false:=Zc HST.out.kr
 have r4:w6.cell? ⟨w.heap.size+1+1,4,none⟩=some (.int .u64 0):=(Zb (i:=4) HST.out.kr).trans rfl
 have z4:w6.frozen? ⟨w.heap.size+1+1,4,none⟩=false:=Zc HST.out.kr
 obtain⟨hd1,hd2,hd3⟩:=HST.out.done (.int .u8 0) (.int .u64 (v:Int)) (.int .u64 0) (.int .u64 (a:Int)) (.int .u64 0)
 have HD1:=Hd hd1
 have HD2:=Hd hd2
 have HD3:=Hd hd3
 clear hd1 hd2 hd3
 go_wp2_with fail
 refine bodyPost_ret (v:=enK (0,v,0,a,0)) ?_ rfl ⟨(0,v,0,a,0),_,_,rfl,HD1.out,HST.out.sh,HST.out.ext,⟨HSD.out.symm,?_,?_,?_,?_⟩,?_,HD2.out,?_,?_,?_,?_,?_⟩
 ·exact results_cell_row (P:=Tryz.prog) rfl _ _ (w.heap.size+1+1) 202 _ (0,0) _ rfl HD3.out Tryz.underlying202 rfl rfl
 ·rw[HSD.out];exact HLW.out.symm
 ·rw[HSD.out];rfl
 ·rw[HSD.out,HLEN.out];exact HX49.out.2
 ·rw[HSD.out,HLEN.out];rfl
 ·have:=HLE.out;have:=V8 n1;omega
 ·show 0≤2;omega
 ·exact HFV.out
 ·exact(by decide:(0:Nat) < 18446744073709551616)
 ·exact HA49.out
 ·exact(by decide:(0:Nat) < 18446744073709551616)))
 (focus(
 have c0:w2.cell? ⟨q,0,none⟩=some (.int .u8 1):=(Zb (i:=0) HST.out.kq).trans rfl
 go_wp2_with fail
 clear c0
 have hst0:=HST.out
 have hsx:=hst0.high
 clear hst0
 refine wro [0,1,2,3,4,5,6,7,9,8,10,11,12] [8,10,12] 12 (fun W=>LkR W w.heap.size (w.heap.size+1) p2 2 i (some ⟨p2,o2,none⟩) n3 c3 o2 t) (by kernel_rfl) (fun _ _ _ _ _ h=>h) ⟨hsx.a,hsx.ii,hsx.v⟩ ?_
 simp only[steps,sE,sD]
 clear hsx
 repeat((first|refine Zf rfl ?_|(refine Zd (v:= ?_) rfl rfl ?_ ?_;rotate_left;(focus(rintro w' ⟨x0,x1,x2⟩;go_simp;try with_reducible rfl))));simp only[Act.put,sA,sB,sC])
 have HSTD:=Hd HST.out.drew
 clear HST
 generalize World.drew _=wd at*
 refine Ze rfl rfl (fun K hK=> ?_)
 go_simp
 have HNB:=Hd (UZ 154 (some ⟨w.heap.size,0,none⟩) (some ⟨w.heap.size+1,0,none⟩) n1 b _ _ (rowB z i) wd (by simp) HN.out (by have:=HLE.out;have:=HM9.out;have:=HN.out;have:=V8 n1;omega) HSTD.out.map HSTD.out.sh (fun V hV k hk=>Zdv w.heap.size (w.heap.size+1) i k z _ _ _ _ _ _ _ _ _ _ _ _ V (HSEN.out V (HSTD.out.kept.trans hV)) (HSTD.out.zb.kept HSTD.out.map hV) (cell_kept HSTD.out.map hV HSTD.out.ci) HW.out HI.out hk))
 refine HNB.out.mono ?_
 rintro e w4 ⟨d,m4,f4,rfl,hnum⟩
 have HLE4:=Hd (Nat.le_trans hnum.le (Nat.add_le_add_right HLE.out _))
 have HX50:=Hd (show Ext _ f4∧Dec f4 (pcL n1 (rowB z i) (pcs n1)) d from⟨hnum.ext,hnum.dec⟩)
 have HA50:Hid (d < 18446744073709551616):=Hd (by have:=hnum.dec.lt hnum.sh;have:=HLE4.out;have:=HM9.out;have:=HN.out;have:=V8 n1;omega)
 have HST4:=Hd (HSTD.out.num hnum)
 clear hnum HSTD HNB HLE
 have hsx:=HST4.out.high
 refine hK.out _ _ (fun _=>hsx) ?_
 clear hK K hsx
 try simp only[Act.put,sA,sB,sC]
 have e1:w4.cell? ⟨q,2,none⟩=some (.int .u64 0):=(Zb (i:=2) HST4.out.kq).trans rfl
 have f1:w4.frozen? ⟨q,2,none⟩=false:=Zc HST4.out.kq
 refine Ze rfl rfl (fun K hK=> ?_)
 go_simp
 have HST5:=Hd (HST4.out.set 2 (.int .u64 (t:Int)))
 clear HST4 e1 f1
 have hsx:=HST5.out.high
 refine hK.out _ _ (fun _=>hsx) ?_
 clear hK K hsx
 try simp only[Act.put,sA,sB,sC]
 generalize w4.setCell ⟨q,2,none⟩ (.int .u64 (t:Int))=w5 at*
 repeat((first|refine Zf rfl ?_|(refine Zd (v:= ?_) rfl rfl ?_ ?_;rotate_left;(focus(rintro w' ⟨x0,x1,x2⟩;go_simp;try with_reducible rfl))));simp only[Act.put,sA,sB,sC])
 have e1:w5.cell? ⟨q,4,none⟩=some (.int .u64 0):=(Zb (i:=4) HST5.out.kq).trans rfl
 have f1:w5.frozen? ⟨q,4,none⟩=false:=Zc HST5.out.kq
 refine Ze rfl rfl (fun K hK=> ?_)
 go_simp
 have HST6:=Hd (HST5.out.set 4 (.int .u64 (d:Int)))
 clear HST5 e1 f1
 refine hK.out _ _ (fun h=>absurd rfl h) ?_
 clear hK K
 try simp only[Act.put,sA,sB,sC]
 generalize w5.setCell ⟨q,4,none⟩ (.int .u64 (d:Int))=w6 at*
 refine Zg ?_
 have HST:=HST6
 have HLE:=HLE4
 clear HST6 HLE4
 have e0:w6.cell? ⟨q,0,none⟩=some (.int .u8 1):=(Zb (i:=0) HST.out.kq).trans rfl
 have e1:w6.cell? ⟨q,1,none⟩=some (.int .u64 0):=(Zb (i:=1) HST.out.kq).trans rfl
 have e2:w6.cell? ⟨q,2,none⟩=some (.int .u64 (t:Int)):=(Zb (i:=2) HST.out.kq).trans rfl
 have e3:w6.cell? ⟨q,3,none⟩=some (.int .u64 0):=(Zb (i:=3) HST.out.kq).trans rfl
 have e4:w6.cell? ⟨q,4,none⟩=some (.int .u64 (d:Int)):=(Zb (i:=4) HST.out.kq).trans rfl
 have r0:w6.cell? ⟨w.heap.size+1+1,0,none⟩=some (.int .u8 0):=(Zb (i:=0) HST.out.kr).trans rfl
 have z0:w6.frozen? ⟨w.heap.size+1+1,0,none⟩=false:=Zc HST.out.kr
 have r1:w6.cell? ⟨w.heap.size+1+1,1,none⟩=some (.int .u64 0):=(Zb (i:=1) HST.out.kr).trans rfl
 have z1:w6.frozen? ⟨w.heap.size+1+1,1,none⟩=false:=Zc HST.out.kr
 have r2:w6.cell? ⟨w.heap.size+1+1,2,none⟩=some (.int .u64 0):=(Zb (i:=2) HST.out.kr).trans rfl
 have z2:w6.frozen? ⟨w.heap.size+1+1,2,none⟩=false:=Zc HST.out.kr
 have r3:w6.cell? ⟨w.heap.size+1+1,3,none⟩=some (.int .u64 0):=(Zb (i:=3) HST.out.kr).trans rfl
 have z3:w6.frozen? ⟨w.heap.size+1+1,3,none⟩=false:=Zc HST.out.kr
 have r4:w6.cell? ⟨w.heap.size+1+1,4,none⟩=some (.int .u64 0):=(Zb (i:=4) HST.out.kr).trans rfl
 have z4:w6.frozen? ⟨w.heap.size+1+1,4,none⟩=false:=Zc HST.out.kr
 obtain⟨hd1,hd2,hd3⟩:=HST.out.done (.int .u8 1) (.int .u64 0) (.int .u64 (t:Int)) (.int .u64 0) (.int .u64 (d:Int))
 have HD1:=Hd hd1
 have HD2:=Hd hd2
 have HD3:=Hd hd3
 clear hd1 hd2 hd3
 go_wp2_with fail
 refine bodyPost_ret (v:=enK (1,0,t,0,d)) ?_ rfl ⟨(1,0,t,0,d),_,_,rfl,HD1.out,HST.out.sh,HST.out.ext,⟨HSD.out.symm,?_,?_,?_,?_⟩,?_,HD2.out,?_,?_,?_,?_,?_⟩
 ·exact results_cell_row (P:=Tryz.prog) rfl _ _ (w.heap.size+1+1) 202 _ (0,0) _ rfl HD3.out Tryz.underlying202 rfl rfl
 ·rw[HSD.out];rfl
 ·rw[HSD.out];exact HHG.out.symm
 ·rw[HSD.out,HLEN.out];rfl
 ·rw[HSD.out,HLEN.out];exact HX50.out.2
 ·have:=HLE.out;have:=V8 n1;omega
 ·show 1≤2;omega
 ·exact(by decide:(0:Nat) < 18446744073709551616)
 ·exact HFH.out
 ·exact(by decide:(0:Nat) < 18446744073709551616)
 ·exact HA50.out))
 (focus(
 have c0:w2.cell? ⟨q,0,none⟩=some (.int .u8 2):=(Zb (i:=0) HST.out.kq).trans rfl
 go_wp2_with fail
 clear c0
 have hst0:=HST.out
 have hsx:=hst0.low
 clear hst0
 refine wro [0,1,2,3,4,5,6,7,9,8,10,11,12] [8,10,12] 12 (fun W=>LkR W w.heap.size (w.heap.size+1) p1 1 i (some ⟨p1,o1,none⟩) n2 c2 o1 v) (by kernel_rfl) (fun _ _ _ _ _ h=>h) ⟨hsx.a,hsx.ii,hsx.v⟩ ?_
 simp only[steps,sE,sD]
 clear hsx
 repeat((first|refine Zf rfl ?_|(refine Zd (v:= ?_) rfl rfl ?_ ?_;rotate_left;(focus(rintro w' ⟨x0,x1,x2⟩;go_simp;try with_reducible rfl))));simp only[Act.put,sA,sB,sC])
 have HSTD:=Hd HST.out.drew
 clear HST
 generalize World.drew _=wd at*
 refine Ze rfl rfl (fun K hK=> ?_)
 go_simp
 have HNB:=Hd (UZ 153 (some ⟨w.heap.size,0,none⟩) (some ⟨w.heap.size+1,0,none⟩) n1 b _ _ (colB z i) wd (by simp) HN.out (by have:=HLE.out;have:=HM9.out;have:=HN.out;have:=V8 n1;omega) HSTD.out.map HSTD.out.sh (fun V hV k hk=>Zdu w.heap.size (w.heap.size+1) i k z _ _ _ _ _ _ _ _ _ _ _ _ V (HSEN.out V (HSTD.out.kept.trans hV)) (HSTD.out.zb.kept HSTD.out.map hV) (cell_kept HSTD.out.map hV HSTD.out.ci) HW.out HI.out hk))
 refine HNB.out.mono ?_
 rintro e w4 ⟨a,m4,f4,rfl,hnum⟩
 have HLE4:=Hd (Nat.le_trans hnum.le (Nat.add_le_add_right HLE.out _))
 have HX49:=Hd (show Ext _ f4∧Dec f4 (pcL n1 (colB z i) (pcs n1)) a from⟨hnum.ext,hnum.dec⟩)
 have HA49:Hid (a < 18446744073709551616):=Hd (by have:=hnum.dec.lt hnum.sh;have:=HLE4.out;have:=HM9.out;have:=HN.out;have:=V8 n1;omega)
 have HST4:=Hd (HSTD.out.num hnum)
 clear hnum HSTD HNB HLE
 have hsx:=HST4.out.low
 refine hK.out _ _ (fun _=>hsx) ?_
 clear hK K hsx
 try simp only[Act.put,sA,sB,sC]
 have e1:w4.cell? ⟨q,1,none⟩=some (.int .u64 0):=(Zb (i:=1) HST4.out.kq).trans rfl
 have f1:w4.frozen? ⟨q,1,none⟩=false:=Zc HST4.out.kq
 refine Ze rfl rfl (fun K hK=> ?_)
 go_simp
 have HST5:=Hd (HST4.out.set 1 (.int .u64 (v:Int)))
 clear HST4 e1 f1
 have hsx:=HST5.out.low
 refine hK.out _ _ (fun _=>hsx) ?_
 clear hK K hsx
 try simp only[Act.put,sA,sB,sC]
 generalize w4.setCell ⟨q,1,none⟩ (.int .u64 (v:Int))=w5 at*
 repeat((first|refine Zf rfl ?_|(refine Zd (v:= ?_) rfl rfl ?_ ?_;rotate_left;(focus(rintro w' ⟨x0,x1,x2⟩;go_simp;try with_reducible rfl))));simp only[Act.put,sA,sB,sC])
 have e1:w5.cell? ⟨q,3,none⟩=some (.int .u64 0):=(Zb (i:=3) HST5.out.kq).trans rfl
 have f1:w5.frozen? ⟨q,3,none⟩=false:=Zc HST5.out.kq
 refine Ze rfl rfl (fun K hK=> ?_)
 go_simp
 have HST6:=Hd (HST5.out.set 3 (.int .u64 (a:Int)))
 clear HST5 e1 f1
 refine hK.out _ _ (fun h=>absurd rfl h) ?_
 clear hK K
 try simp only[Act.put,sA,sB,sC]
 generalize w5.setCell ⟨q,3,none⟩ (.int .u64 (a:Int))=w6 at*
 refine Zg ?_
 have HST:=HST6
 have HLE:=HLE4
 clear HST6 HLE4
 have c0:w6.cell? ⟨q,0,none⟩=some (.int .u8 2):=(Zb (i:=0) HST.out.kq).trans rfl
 go_wp2_with fail
 clear c0
 have hst0:=HST.out
 have hsx:=hst0.high
 clear hst0
 refine wro [0,1,2,3,4,5,6,7,9,8,10,11,12] [8,10,12] 12 (fun W=>LkR W w.heap.size (w.heap.size+1) p2 2 i (some ⟨p2,o2,none⟩) n3 c3 o2 t) (by kernel_rfl) (fun _ _ _ _ _ h=>h) ⟨hsx.a,hsx.ii,hsx.v⟩ ?_
 simp only[steps,sE,sD]
 clear hsx
 repeat((first|refine Zf rfl ?_|(refine Zd (v:= ?_) rfl rfl ?_ ?_;rotate_left;(focus(rintro w' ⟨x0,x1,x2⟩;go_simp;try with_reducible rfl))));simp only[Act.put,sA,sB,sC])
 have HSTD:=Hd HST.out.drew
 clear HST
 generalize World.drew _=wd at*
 refine Ze rfl rfl (fun K hK=> ?_)
 go_simp
 have HNB:=Hd (UZ 154 (some ⟨w.heap.size,0,none⟩) (some ⟨w.heap.size+1,0,none⟩) n1 b _ _ (rowB z i) wd (by simp) HN.out (by have:=HLE.out;have:=HM9.out;have:=HN.out;have:=V8 n1;omega) HSTD.out.map HSTD.out.sh (fun V hV k hk=>Zdv w.heap.size (w.heap.size+1) i k z _ _ _ _ _ _ _ _ _ _ _ _ V (HSEN.out V (HSTD.out.kept.trans hV)) (HSTD.out.zb.kept HSTD.out.map hV) (cell_kept HSTD.out.map hV HSTD.out.ci) HW.out HI.out hk))
 refine HNB.out.mono ?_
 rintro e w4 ⟨d,m4,f4,rfl,hnum⟩
 have HLE4:=Hd (Nat.le_trans hnum.le (Nat.add_le_add_right HLE.out _))
 have HX50:=Hd (show Ext _ f4∧Dec f4 (pcL n1 (rowB z i) (pcs n1)) d from⟨hnum.ext,hnum.dec⟩)
 have HA50:Hid (d < 18446744073709551616):=Hd (by have:=hnum.dec.lt hnum.sh;have:=HLE4.out;have:=HM9.out;have:=HN.out;have:=V8 n1;omega)
 have HST4:=Hd (HSTD.out.num hnum)
 clear hnum HSTD HNB HLE
 have hsx:=HST4.out.high
 refine hK.out _ _ (fun _=>hsx) ?_
 clear hK K hsx
 try simp only[Act.put,sA,sB,sC]
 have e1:w4.cell? ⟨q,2,none⟩=some (.int .u64 0):=(Zb (i:=2) HST4.out.kq).trans rfl
 have f1:w4.frozen? ⟨q,2,none⟩=false:=Zc HST4.out.kq
 refine Ze rfl rfl (fun K hK=> ?_)
 go_simp
 have HST5:=Hd (HST4.out.set 2 (.int .u64 (t:Int)))
 clear HST4 e1 f1
 have hsx:=HST5.out.high
 refine hK.out _ _ (fun _=>hsx) ?_
 clear hK K hsx
 try simp only[Act.put,sA,sB,sC]
 generalize w4.setCell ⟨q,2,none⟩ (.int .u64 (t:Int))=w5 at*
 repeat((first|refine Zf rfl ?_|(refine Zd (v:= ?_) rfl rfl ?_ ?_;rotate_left;(focus(rintro w' ⟨x0,x1,x2⟩;go_simp;try with_reducible rfl))));simp only[Act.put,sA,sB,sC])
 have e1:w5.cell? ⟨q,4,none⟩=some (.int .u64 0):=(Zb (i:=4) HST5.out.kq).trans rfl
 have f1:w5.frozen? ⟨q,4,none⟩=false:=Zc HST5.out.kq
 refine Ze rfl rfl (fun K hK=> ?_)
 go_simp
 have HST6:=Hd (HST5.out.set 4 (.int .u64 (d:Int)))
 clear HST5 e1 f1
 refine hK.out _ _ (fun h=>absurd rfl h) ?_
 clear hK K
 try simp only[Act.put,sA,sB,sC]
 generalize w5.setCell ⟨q,4,none⟩ (.int .u64 (d:Int))=w6 at*
 refine Zg ?_
 have HST:=HST6
 have HLE:=HLE4
 clear HST6 HLE4
 have e0:w6.cell? ⟨q,0,none⟩=some (.int .u8 2):=(Zb (i:=0) HST.out.kq).trans rfl
 have e1:w6.cell? ⟨q,1,none⟩=some (.int .u64 (v:Int)):=(Zb (i:=1) HST.out.kq).trans rfl
 have e2:w6.cell? ⟨q,2,none⟩=some (.int .u64 (t:Int)):=(Zb (i:=2) HST.out.kq).trans rfl
 have e3:w6.cell? ⟨q,3,none⟩=some (.int .u64 (a:Int)):=(Zb (i:=3) HST.out.kq).trans rfl
 have e4:w6.cell? ⟨q,4,none⟩=some (.int .u64 (d:Int)):=(Zb (i:=4) HST.out.kq).trans rfl
 have r0:w6.cell? ⟨w.heap.size+1+1,0,none⟩=some (.int .u8 0):=(Zb (i:=0) HST.out.kr).trans rfl
 have z0:w6.frozen? ⟨w.heap.size+1+1,0,none⟩=false:=Zc HST.out.kr
 have r1:w6.cell? ⟨w.heap.size+1+1,1,none⟩=some (.int .u64 0):=(Zb (i:=1) HST.out.kr).trans rfl
 have z1:w6.frozen? ⟨w.heap.size+1+1,1,none⟩=false:=Zc HST.out.kr
 have r2:w6.cell? ⟨w.heap.size+1+1,2,none⟩=some (.int .u64 0):=(Zb (i:=2) HST.out.kr).trans rfl
 have z2:w6.frozen? ⟨w.heap.size+1+1,2,none⟩=false:=Zc HST.out.kr
 have r3:w6.cell? ⟨w.heap.size+1+1,3,none⟩=some (.int .u64 0):=(Zb (i:=3) HST.out.kr).trans rfl
 have z3:w6.frozen? ⟨w.heap.size+1+1,3,none⟩=false:=Zc HST.out.kr
 have r4:w6.cell? ⟨w.heap.size+1+1,4,none⟩=some (.int .u64 0):=(Zb (i:=4) HST.out.kr).trans rfl
 have z4:w6.frozen? ⟨w.heap.size+1+1,4,none⟩=false:=Zc HST.out.kr
 obtain⟨hd1,hd2,hd3⟩:=HST.out.done (.int .u8 2) (.int .u64 (v:Int)) (.int .u64 (t:Int)) (.int .u64 (a:Int)) (.int .u64 (d:Int))
 have HD1:=Hd hd1
 have HD2:=Hd hd2
 have HD3:=Hd hd3
 clear hd1 hd2 hd3
 go_wp2_with fail
 refine bodyPost_ret (v:=enK (2,v,t,a,d)) ?_ rfl ⟨(2,v,t,a,d),_,_,rfl,HD1.out,HST.out.sh,HST.out.ext,⟨HSD.out.symm,?_,?_,?_,?_⟩,?_,HD2.out,?_,?_,?_,?_,?_⟩
 ·exact results_cell_row (P:=Tryz.prog) rfl _ _ (w.heap.size+1+1) 202 _ (0,0) _ rfl HD3.out Tryz.underlying202 rfl rfl
 ·rw[HSD.out];exact HLW.out.symm
 ·rw[HSD.out];exact HHG.out.symm
 ·rw[HSD.out,HLEN.out];exact HX49.out.2.mono HX50.out.1
 ·rw[HSD.out,HLEN.out];exact HX50.out.2
 ·have:=HLE.out;have:=V8 n1;omega
 ·show 2≤2;omega
 ·exact HFV.out
 ·exact HFH.out
 ·exact HA49.out
 ·exact HA50.out))
end Go.Proofs.YtmejhedegmjboaaGreat.I
