import Derived.Test.YtmejhedegmjboaaGreatLiv
import Derived.Test.YtmejhedegmjboaaGreatPnA
import Derived.Test.YtmejhedegmjboaaGreatRange
import Derived.Test.YtmejhedegmjboaaGreatRfC
set_option maxRecDepth 100000
set_option maxHeartbeats 2000000
namespace Go.Proofs.YtmejhedegmjboaaGreat.PaC
open PaM
section
variable {c:Cfg} {lo hi:Nat→Nat} {B:Nat→Nat→Bool} {le:Nat→Nat→Prop}
theorem Z5.rfl' {i:Nat}:Z5 lo B i i:=⟨fun _=>rfl,rfl⟩
theorem Z5.symm {i j:Nat}(h:Z5 lo B i j):Z5 lo B j i:=⟨fun k=>(h.1 k).symm,h.2.symm⟩
theorem Z5.trans {i j k:Nat}(h:Z5 lo B i j)(g:Z5 lo B j k):Z5 lo B i k:=⟨fun q=>(h.1 q).trans (g.1 q),h.2.trans g.2⟩
theorem ZQ.rfl' {i:Nat}:ZQ hi B i i:=⟨fun _=>rfl,rfl⟩
theorem ZQ.symm {i j:Nat}(h:ZQ hi B i j):ZQ hi B j i:=⟨fun k=>(h.1 k).symm,h.2.symm⟩
theorem ZQ.trans {i j k:Nat}(h:ZQ hi B i j)(g:ZQ hi B j k):ZQ hi B i k:=⟨fun q=>(h.1 q).trans (g.1 q),h.2.trans g.2⟩
structure Mean (c:Cfg)(lo hi:Nat→Nat)(B:Nat→Nat→Bool)(le:Nat→Nat→Prop):Prop where
 so: ∀i j,i < c.n→j < c.n→(c.so i j=true↔ZQ hi B i j)
 si: ∀i j,i < c.n→j < c.n→(c.si i j=true↔Z5 lo B i j)
 fit: ∀d u,d < c.n→u < c.n→(c.fit d u=true↔One lo hi B le u d)
variable (O:c.Ok) (M:Mean c lo hi B le)
theorem KE {d:Nat}(h:d∈c.downs):c.sd d=1:=(Zt.1 (ZO.1 h).1).2.2.2
theorem ZeK {d:Nat}(h:d∈c.cls 2):c.sd d=2:=(Zt.1 h).2.2.2
include O M in
theorem ZjE {x y:Nat}(hx:Cls c x)(hy:Cls c y)(sx:c.sd x≠1)(sy:c.sd y≠1)(h:c.one x=c.one y):Z5 lo B x y:=by
 cases V7 O hx with
 |self e _ _=>(
 cases V7 O hy with
 |self e' _ _=>rw[e,e'] at h;rw[h];exact Z5.rfl'
 |out _ _ k _ _ _=>exact absurd k sy
 |inn b e' k hb hs _=>(
 rw[e,e'] at h
 subst h
 exact Z5.symm ((M.si _ _ hy.1 hx.1).1 hs))
 |pair d e' k hb _ _ _=>rw[e,e'] at h;subst h;exact absurd (KE hb) sx)
 |out _ _ k _ _ _=>exact absurd k sx
 |inn b e k hb hs _=>(
 have hbn:=(Zt.1 hb).1
 cases V7 O hy with
 |self e' _ _=>(
 rw[e,e'] at h
 subst h
 exact(M.si _ _ hx.1 hy.1).1 hs)
 |out _ _ k _ _ _=>exact absurd k sy
 |inn b' e' k hb' hs' _=>(
 rw[e,e'] at h
 subst h
 exact Z5.trans ((M.si _ _ hx.1 hbn).1 hs) (Z5.symm ((M.si _ _ hy.1 hbn).1 hs')))
 |pair d e' k hb' _ _ _=>rw[e,e'] at h;subst h;have:=KE hb';have:=ZeK hb;omega)
 |pair d e k hb _ _ _=>(
 cases V7 O hy with
 |self e' _ _=>rw[e,e'] at h;subst h;exact absurd (KE hb) sy
 |out _ _ k _ _ _=>exact absurd k sy
 |inn b e' k hb' _ _=>rw[e,e'] at h;subst h;have:=KE hb;have:=ZeK hb';omega
 |pair d' e' k' hb' _ _ _=>(
 have:=Zcf O hx hy (k.trans k'.symm) h
 rw[this]
 exact Z5.rfl'))
include O M in
theorem Zhb {x y:Nat}(hx:Cls c x)(hy:Cls c y)(sx:c.sd x≠0)(sy:c.sd y≠0)(h:c.one x=c.one y):ZQ hi B x y:=by
 cases V7 O hx with
 |self e _ _=>(
 cases V7 O hy with
 |self e' _ _=>rw[e,e'] at h;rw[h];exact ZQ.rfl'
 |inn _ _ k _ _ _=>exact absurd k sy
 |out b e' k hb hs _=>(
 rw[e,e'] at h
 subst h
 exact ZQ.symm ((M.so _ _ hy.1 hx.1).1 hs))
 |pair _ _ k _ _ _ _=>exact absurd k sy)
 |inn _ _ k _ _ _=>exact absurd k sx
 |out b e k hb hs _=>(
 have hbn:=(Zt.1 hb).1
 cases V7 O hy with
 |self e' _ _=>(
 rw[e,e'] at h
 subst h
 exact(M.so _ _ hx.1 hy.1).1 hs)
 |inn _ _ k _ _ _=>exact absurd k sy
 |out b' e' k hb' hs' _=>(
 rw[e,e'] at h
 subst h
 exact ZQ.trans ((M.so _ _ hx.1 hbn).1 hs) (ZQ.symm ((M.so _ _ hy.1 hbn).1 hs')))
 |pair _ _ k _ _ _ _=>exact absurd k sy)
 |pair _ _ k _ _ _ _=>exact absurd k sx
include O M in
theorem ZeL {i:Nat}(h:i < c.n)(hs:c.sd i≠1):Z5 lo B i (c.first i):=(M.si _ _ h (Nat.lt_of_le_of_lt (O.le i) h)).1 (O.siF i h hs)
include O M in
theorem ZcA {i:Nat}(h:i < c.n)(hs:c.sd i≠0):ZQ hi B i (c.first i):=(M.so _ _ h (Nat.lt_of_le_of_lt (O.le i) h)).1 (O.soF i h hs)
include O M in
theorem Zhc {i j:Nat}(h:i < c.n)(g:j < c.n)(hf:c.fx i=false)(gf:c.fx j=false)(hs:c.sd i≠1)(gs:c.sd j≠1)(e:c.home i=c.home j):Z5 lo B i j:=
 Z5.trans (ZeL O M h hs) (Z5.trans (ZjE O M (.first O h hf) (.first O g gf) (by rw[O.sdf i h];exact hs) (by rw[O.sdf j g];exact gs) e) (Z5.symm (ZeL O M g gs)))
include O M in
theorem ZeM {i j:Nat}(h:i < c.n)(g:j < c.n)(hf:c.fx i=false)(gf:c.fx j=false)(hs:c.sd i≠0)(gs:c.sd j≠0)(e:c.home i=c.home j):ZQ hi B i j:=
 ZQ.trans (ZcA O M h hs) (ZQ.trans (Zhb O M (.first O h hf) (.first O g gf) (by rw[O.sdf i h];exact hs) (by rw[O.sdf j g];exact gs) e) (ZQ.symm (ZcA O M g gs)))
theorem ZeN {x u:Nat}(h:c.inn x=some u):u < c.n∧c.fx u=false∧c.sd u≠1∧c.num u=x:=VI h
theorem ZeO {x u:Nat}(h:c.out x=some u):u < c.n∧c.fx u=false∧c.sd u≠0∧c.num u=x:=VI h
end
end Go.Proofs.YtmejhedegmjboaaGreat.PaC
namespace Go.Proofs.YtmejhedegmjboaaGreat.I
open PaM PaC
def soB (z:Sen)(i j:Nat):Bool:=decide (hg z i=hg z j) && (List.range z.p.length).all fun k=>bb z i k==bb z j k
def siB (z:Sen)(i j:Nat):Bool:=decide (lw z i=lw z j) && (List.range z.p.length).all fun k=>bb z k i==bb z k j
def Yb (S:Bo.Sr)(z:Sen)(d k:Nat):Bool:=S.below (hg z k) (hg z d) && (List.range z.p.length).all fun m=> !bb z d m||bb z k m
def RP (S:Bo.Sr)(z:Sen)(d u:Nat):Bool:=bb z d u && (S.below (lw z u) (hg z d) && (List.range z.p.length).all fun m=> !bb z d m||S.below (lw z u) (lw z m))
def mayB (S:Bo.Sr)(z:Sen)(d u:Nat):Bool:=RP S z d u && (List.range z.p.length).all fun k=> !bb z k u||Yb S z d k
noncomputable def cfg (S:Bo.Sr) (z:Sen):Cfg:=⟨z.p.length,first z,fixB S z,sd z,soB z,siB z,mayB S z⟩
def Kz (S:Bo.Sr)(z:Sen)(d u:Nat):Bool:=bb z d u && (S.below (lw z u) (hg z d) && (List.range z.p.length).all fun k=> !bb z k u||(List.range z.p.length).all fun m=> !bb z d m||(bb z k m && (S.below (lw z u) (lw z m) && S.below (hg z k) (hg z d))))
theorem Uk {n:Nat}{f:Nat→Bool}:(List.range n).all f=true↔ ∀k < n,f k=true:=by
 rw[List.all_eq_true]
 exact⟨fun h k hk=>h k (List.mem_range.2 hk),fun h k hk=>h k (List.mem_range.1 hk)⟩
theorem VJ {z:Sen}{i j:Nat}:soB z i j=true↔hg z i=hg z j∧ ∀k < z.p.length,bb z i k=bb z j k:=by
 unfold soB
 rw[Bool.and_eq_true,decide_eq_true_eq,Uk]
 simp
theorem VK {z:Sen}{i j:Nat}:siB z i j=true↔lw z i=lw z j∧ ∀k < z.p.length,bb z k i=bb z k j:=by
 unfold siB
 rw[Bool.and_eq_true,decide_eq_true_eq,Uk]
 simp
theorem Zgw {a b:Bool}:(!a||b)=true↔(a=true→b=true):=by cases a <;> simp
theorem Zdj {S:Bo.Sr}{z:Sen}{d u:Nat}:mayB S z d u=true↔
  bb z d u=true∧S.below (lw z u) (hg z d)=true∧(∀k < z.p.length,∀m < z.p.length,bb z k u=true→bb z d m=true→bb z k m=true)∧(∀m < z.p.length,bb z d m=true→S.below (lw z u) (lw z m)=true)∧ ∀k < z.p.length,bb z k u=true→S.below (hg z k) (hg z d)=true:=by
 unfold mayB RP Yb
 simp only[Bool.and_eq_true,Uk,Zgw]
 constructor
 ·rintro⟨⟨h1,h2,h3⟩,h4⟩
  exact⟨h1,h2,fun k hk m hm a b=>(h4 k hk a).2 m hm b,h3,fun k hk a=>(h4 k hk a).1⟩
 ·rintro⟨h1,h2,h3,h4,h5⟩
  exact⟨⟨h1,h2,h4⟩,fun k hk a=>⟨h5 k hk a,fun m hm b=>h3 k hk m hm a b⟩⟩
theorem Zix {S:Bo.Sr}{z:Sen}{d u:Nat}(hd:d < z.p.length)(hu:u < z.p.length):Kz S z d u=mayB S z d u:=by
 rw[Bool.eq_iff_iff,Zdj]
 unfold Kz
 simp only[Bool.and_eq_true,Uk,Zgw]
 constructor
 ·rintro⟨h1,h2,h3⟩
  exact⟨h1,h2,fun k hk m hm a b=>(h3 k hk a m hm b).1,fun m hm b=>(h3 d hd h1 m hm b).2.1,fun k hk a=>(h3 k hk a u hu h1).2.2⟩
 ·rintro⟨h1,h2,h3,h4,h5⟩
  exact⟨h1,h2,fun k hk a m hm b=>⟨h3 k hk m hm a b,h4 m hm b,h5 k hk a⟩⟩
theorem Kt {z:Sen}(hw:Zn z=true){i j:Nat}(h:z.p.length≤i∨z.p.length≤j):bb z i j=false:=by
 obtain⟨-,-,a3,-,a5⟩:=ZE.1 hw
 unfold bb
 rw[List.getD_eq_getElem?_getD,List.getD_eq_getElem?_getD]
 by_cases hi:i < z.be.length
 ·rw[List.getElem?_eq_getElem hi,Option.getD_some]
  have:=a5 _ (List.getElem_mem hi)
  rw[List.getElem?_eq_none (show z.be[i].length≤j by omega)]
  rfl
 ·rw[List.getElem?_eq_none (show z.be.length≤i by omega)]
  rfl
theorem Zdk {z:Sen}{i j:Nat}(hi:okA z i=true)(hj:okA z j=true)(h:Look z i j):first z i=first z j:=by
 rcases Nat.lt_trichotomy i j with e|e|e
 ·exact(YZ hj hi h e).symm
 ·rw[e]
 ·exact YZ hi hj h.symm e
theorem Zem {z:Sen}{i:Nat}:first z (first z i)=first z i:=by
 by_cases ho:okA z i=true
 ·(
 have h:=Vl ho
 have k:=Vl h.ok
 rcases Nat.lt_or_ge (first z (first z i)) (first z i) with hlt|hge
 ·exact absurd (k.look.trans h.look) (h.least _ hlt k.ok)
 ·exact Nat.le_antisymm k.le hge)
 ·have e:=KQ (Bool.not_eq_true _▸ho)
  rw[e,e]
theorem UW (z:Sen)(i:Nat):Look z i (first z i):=by
 by_cases ho:okA z i=true
 ·exact(Vl ho).look.symm
 ·have e:=KQ (Bool.not_eq_true _▸ho)
  rw[e]
  exact Look.refl _ _
theorem Znd {z:Sen}(hw:Zn z=true)(i:Nat)(h:i < z.p.length):sd z i≤2:=by
 obtain⟨-,-,-,a4,-⟩:=ZE.1 hw
 rw[ZaE h]
 exact a4 _ (List.getElem_mem h)
theorem Ziy {z:Sen}{i:Nat}(h:sd z i≠2):okA z i=true:=by unfold okA;simp[h]
theorem Yw {S:Bo.Sr}{z:Sen}(hw:Zn z=true):(cfg S z).Ok where
 le:=Zds z
 idem _:=Zem
 fxf i _:=(ZiD (UW z i)).1.symm
 sdf i _:=(UW z i).1.symm
 soS i j h:=by
  have h:=VJ.1 h
  exact VJ.2 ⟨h.1.symm,fun k hk=>(h.2 k hk).symm⟩
 siS i j h:=by
  have h:=VK.1 h
  exact VK.2 ⟨h.1.symm,fun k hk=>(h.2 k hk).symm⟩
 soT i j k h g:=by(
 have h:=VJ.1 h
 have g:=VJ.1 g
 exact VJ.2 ⟨h.1.trans g.1,fun k hk=>(h.2 k hk).trans (g.2 k hk)⟩)
 siT i j k h g:=by(
 have h:=VK.1 h
 have g:=VK.1 g
 exact VK.2 ⟨h.1.trans g.1,fun k hk=>(h.2 k hk).trans (g.2 k hk)⟩)
 soU i j _ _ hi hj h:=by(
 have h:=VJ.1 h
 have hi:sd z i=1:=hi
 have hj:sd z j=1:=hj
 exact Zdk (Ziy (by omega)) (Ziy (by omega)) ⟨hi.trans hj.symm,fun e=>absurd hi e,fun _=>h⟩)
 siU i j _ _ hi hj h:=by(
 have h:=VK.1 h
 have hi:sd z i=0:=hi
 have hj:sd z j=0:=hj
 exact Zdk (Ziy (by omega)) (Ziy (by omega)) ⟨hi.trans hj.symm,fun _=>h,fun e=>absurd hi e⟩)
 soF i _ h:=VJ.2 ((UW z i).2.2 h)
 siF i _ h:=VK.2 ((UW z i).2.1 h)
 sd2:=Znd hw
theorem Zdl {S:Bo.Sr}{z:Sen}(hw:Zn z=true):Mean (cfg S z) (lw z) (hg z) (bb z) (fun a b=>S.below a b=true) where
 so i j _ _:=by(
 refine VJ.trans ⟨fun h=>⟨fun k=> ?_,h.1⟩,fun h=>⟨h.2,fun k _=>h.1 k⟩⟩
 by_cases hk:k < z.p.length
 ·exact h.2 k hk
 ·rw[Kt hw (.inr (by omega)),Kt hw (.inr (by omega))])
 si i j _ _:=by(
 refine VK.trans ⟨fun h=>⟨fun k=> ?_,h.1⟩,fun h=>⟨h.2,fun k _=>h.1 k⟩⟩
 by_cases hk:k < z.p.length
 ·exact h.2 k hk
 ·rw[Kt hw (.inl (by omega)),Kt hw (.inl (by omega))])
 fit d u hd hu:=by(
 refine Zdj.trans ⟨fun ⟨h1,h2,h3,h4,h5⟩=>⟨h1,h2,fun k m a b=> ?_,fun m b=> ?_,fun k a=> ?_⟩,fun h=>⟨h.at',h.lohi,fun k _ m _ a b=>h.on k m a b,fun m _ b=>h.low m b,fun k _ a=>h.high k a⟩⟩
 ·(
 by_cases hk:k < z.p.length
 ·by_cases hm:m < z.p.length
  ·exact h3 k hk m hm a b
  ·rw[Kt hw (.inr (by omega))] at b;cases b
 ·rw[Kt hw (.inl (by omega))] at a;cases a)
 ·by_cases hm:m < z.p.length
  ·exact h4 m hm b
  ·rw[Kt hw (.inr (by omega))] at b;cases b
 ·by_cases hk:k < z.p.length
  ·exact h5 k hk a
  ·rw[Kt hw (.inl (by omega))] at a;cases a)
noncomputable def trm (S:Bo.Sr) (z:Sen) (i:Nat):Tm:=if fixB S z i=true then(false,(valF z i:Int)) else(true,((cfg S z).num i:Int))
noncomputable def trmL (S:Bo.Sr) (z:Sen):List Tm:=if Zn z=true then(List.range z.p.length).map (trm S z) else []
noncomputable def trmN (S:Bo.Sr) (z:Sen):Nat:=if Zn z=true then(cfg S z).vars else 0
noncomputable def undB (S:Bo.Sr) (z:Sen) (v w:Nat):Bool:= !decide (v=w) && match (cfg S z).out v,(cfg S z).inn w with
 |some d,some u=>bb z d u && !S.below (hg z d) (lw z u)
 |_,_=>false
noncomputable def covB (S:Bo.Sr) (z:Sen) (m v w:Nat):Bool:=undB S z v w && !(List.range m).any fun t=>undB S z v t && undB S z t w
noncomputable def lowBd (S:Bo.Sr) (z:Sen) (v:Nat):List Bo.Bd:=match (cfg S z).inn v with
 |some u=>if lw z u=S.bot then [] else [⟨false,lw z u,true,v⟩]
 |none=> []
noncomputable def highBd (S:Bo.Sr) (z:Sen) (v:Nat):List Bo.Bd:=match (cfg S z).out v with
 |some d=>if hg z d=S.top then [] else [⟨true,v,false,hg z d⟩]
 |none=> []
noncomputable def covBd (S:Bo.Sr) (z:Sen) (m v j:Nat):List Bo.Bd:=((List.range j).filter (covB S z m v)).map fun w=>⟨true,v,true,w⟩
noncomputable def bdsV (S:Bo.Sr) (z:Sen) (m v:Nat):List Bo.Bd:=lowBd S z v++(highBd S z v++covBd S z m v m)
noncomputable def bdsF (S:Bo.Sr) (z:Sen) (m j:Nat):List Bo.Bd:=(List.range j).flatMap (bdsV S z m)
noncomputable def bds (S:Bo.Sr) (z:Sen):List Bo.Bd:=bdsF S z (trmN S z) (trmN S z)
end Go.Proofs.YtmejhedegmjboaaGreat.I
namespace Go.Proofs.YtmejhedegmjboaaGreat.I
open Go.RowKit PaC
def tdV (v:Value)(A1:Option Addr)(n1 c1:Nat)(A2:Option Addr)(n2 c2:Nat)(A3:Option Addr)(n3 c3:Nat)(A4:Option Addr)(n4 c4:Nat)(F:Option Addr)(nf cf:Nat)(X:Option Addr)(nx cx:Nat)(V:Option Addr)(nv cv:Nat)(O:Option Addr)(no co:Nat):Value:= .agg #[v,.slice A1 n1 c1,.slice A2 n2 c2,.slice A3 n3 c3,.slice A4 n4 c4,.slice F nf cf,.slice X nx cx,.slice V nv cv,.slice O no co]
structure TBx (w:World)(g:Nat)(v:Value)(A1:Option Addr)(n1 c1:Nat)(A2:Option Addr)(n2 c2:Nat)(A3:Option Addr)(n3 c3:Nat)(A4:Option Addr)(n4 c4:Nat)(F:Option Addr)(nf cf:Nat)(X:Option Addr)(nx cx:Nat)(V:Option Addr)(nv cv:Nat)(O:Option Addr)(no co:Nat):Prop where
 p0:w.cell? ⟨g,0,none⟩=some v
 p1:w.cell? ⟨g,1,none⟩=some (.slice A1 n1 c1)
 p2:w.cell? ⟨g,2,none⟩=some (.slice A2 n2 c2)
 p3:w.cell? ⟨g,3,none⟩=some (.slice A3 n3 c3)
 p4:w.cell? ⟨g,4,none⟩=some (.slice A4 n4 c4)
 p5:w.cell? ⟨g,5,none⟩=some (.slice F nf cf)
 p6:w.cell? ⟨g,6,none⟩=some (.slice X nx cx)
 p7:w.cell? ⟨g,7,none⟩=some (.slice V nv cv)
 p8:w.cell? ⟨g,8,none⟩=some (.slice O no co)
section
variable {w W:World} {g:Nat} {v:Value} {A1:Option Addr} {n1 c1:Nat} {A2:Option Addr} {n2 c2:Nat} {A3:Option Addr} {n3 c3:Nat} {A4:Option Addr} {n4 c4:Nat} {F:Option Addr} {nf cf:Nat} {X:Option Addr} {nx cx:Nat} {V:Option Addr} {nv cv:Nat} {O:Option Addr} {no co:Nat}
theorem TBx.keep (h:TBx w g v A1 n1 c1 A2 n2 c2 A3 n3 c3 A4 n4 c4 F nf cf X nx cx V nv cv O no co)(hb:Below w.heap.size w W):TBx W g v A1 n1 c1 A2 n2 c2 A3 n3 c3 A4 n4 c4 F nf cf X nx cx V nv cv O no co:=
 ⟨Za h.p0 hb,Za h.p1 hb,Za h.p2 hb,Za h.p3 hb,Za h.p4 hb,Za h.p5 hb,Za h.p6 hb,Za h.p7 hb,Za h.p8 hb⟩
theorem TBx.of (h:w.heap[g]?=some (.cells #[v,.slice A1 n1 c1,.slice A2 n2 c2,.slice A3 n3 c3,.slice A4 n4 c4,.slice F nf cf,.slice X nx cx,.slice V nv cv,.slice O no co] 108 (0,0))):TBx w g v A1 n1 c1 A2 n2 c2 A3 n3 c3 A4 n4 c4 F nf cf X nx cx V nv cv O no co:=
 ⟨(Zb (i:=0) h).trans rfl,(Zb (i:=1) h).trans rfl,(Zb (i:=2) h).trans rfl,(Zb (i:=3) h).trans rfl,(Zb (i:=4) h).trans rfl,(Zb (i:=5) h).trans rfl,(Zb (i:=6) h).trans rfl,(Zb (i:=7) h).trans rfl,(Zb (i:=8) h).trans rfl⟩
end
def lim (z:Sen):Nat:=if Zn z=true then z.p.length else 0
theorem ZP {z:Sen}{i:Nat}(h:i < lim z):Zn z=true∧i < z.p.length:=by
 unfold lim at h
 split at h
 ·rename_i e;exact⟨e,h⟩
 ·omega
theorem QQ {z:Sen}(h:Zn z=true):lim z=z.p.length:=if_pos h
theorem Zmt {z:Sen}(h:Zn z=false):lim z=0:=by unfold lim;rw[h];rfl
theorem Zdz (z:Sen):(alF z).length=lim z:=by
 unfold alF lim
 split <;> simp
theorem RV (S:Bo.Sr)(z:Sen):(fixF S z).length=lim z∧(fvF S z).length=lim z:=by
 unfold fixF fvF lim
 split <;> simp
structure TdAt (w:World)(S:Bo.Sr)(z:Sen)(v:Value)(A1:Option Addr)(n1 c1:Nat)(A2:Option Addr)(n2 c2:Nat)(A3:Option Addr)(n3 c3:Nat)(A4:Option Addr)(n4 c4:Nat)(F:Option Addr)(nf cf:Nat)(X:Option Addr)(nx cx:Nat)(V:Option Addr)(nv cv:Nat):Prop where
 srt:Bo.VH w v S
 sen:Zx w z A1 n1 c1 A2 n2 c2 A3 n3 c3 A4 n4 c4
 f:Rd nmI w w.heap.size F nf cf (alF z)
 x:Rd Value.bool w w.heap.size X nx cx (fixF S z)
 v:Rd La.nm w w.heap.size V nv cv (fvF S z)
 le:n1≤400
section
variable {w W:World} {S:Bo.Sr} {z:Sen} {v:Value} {A1:Option Addr} {n1 c1:Nat} {A2:Option Addr} {n2 c2:Nat} {A3:Option Addr} {n3 c3:Nat} {A4:Option Addr} {n4 c4:Nat} {F:Option Addr} {nf cf:Nat} {X:Option Addr} {nx cx:Nat} {V:Option Addr} {nv cv:Nat}
theorem TdAt.keep (h:TdAt w S z v A1 n1 c1 A2 n2 c2 A3 n3 c3 A4 n4 c4 F nf cf X nx cx V nv cv)(hb:Below w.heap.size w W):TdAt W S z v A1 n1 c1 A2 n2 c2 A3 n3 c3 A4 n4 c4 F nf cf X nx cx V nv cv:=
 ⟨h.srt.keep hb,h.sen.keep hb,(h.f.below hb).mono hb.size,(h.x.below hb).mono hb.size,(h.v.below hb).mono hb.size,h.le⟩
theorem TdAt.sz (h:TdAt w S z v A1 n1 c1 A2 n2 c2 A3 n3 c3 A4 n4 c4 F nf cf X nx cx V nv cv):nf=lim z∧nx=lim z∧nv=lim z∧lim z≤n1:=by
 have h1:=h.f.len
 have h2:=h.x.len
 have h3:=h.v.len
 have h4:=h.sen.rp.len
 rw[Zdz] at h1
 rw[(RV S z).1] at h2
 rw[(RV S z).2] at h3
 refine⟨h1.symm,h2.symm,h3.symm,?_⟩
 unfold lim
 split <;> omega
theorem TdAt.lens (h:TdAt w S z v A1 n1 c1 A2 n2 c2 A3 n3 c3 A4 n4 c4 F nf cf X nx cx V nv cv)(hw:Zn z=true):z.p.length=n1∧n2=n1∧n3=n1∧n4=n1∧z.lo.length=n1∧z.hi.length=n1∧z.be.length=n1:=by
 obtain⟨a1,a2,a3,a4,a5⟩:=ZE.1 hw
 have h1:=h.sen.rp.len
 have h2:=h.sen.rl.len
 have h3:=h.sen.rh.len
 have h4:=h.sen.rb.len
 omega
theorem TdAt.atF (h:TdAt w S z v A1 n1 c1 A2 n2 c2 A3 n3 c3 A4 n4 c4 F nf cf X nx cx V nv cv){i:Nat}(hi:i < lim z): ∃b o,F=some ⟨b,o,none⟩∧w.cell? ⟨b,o+i,none⟩=some (.int .i64 (first z i:Int)):=by
 have hn:=h.sz
 obtain⟨b,o,e,-,hc⟩:=h.f.spot (by omega)
 have:=hc i (by rw[Zdz];exact hi)
 have e2:(alF z)[i]'(by rw[Zdz];exact hi)=first z i:=by
  simp only[alF,if_pos (ZP hi).1,List.getElem_map,List.getElem_range]
 rw[e2] at this
 exact⟨b,o,e,this⟩
theorem TdAt.atX (h:TdAt w S z v A1 n1 c1 A2 n2 c2 A3 n3 c3 A4 n4 c4 F nf cf X nx cx V nv cv){i:Nat}(hi:i < lim z): ∃b o,X=some ⟨b,o,none⟩∧w.cell? ⟨b,o+i,none⟩=some (.bool (fixB S z i)):=by
 have hn:=h.sz
 obtain⟨b,o,e,-,hc⟩:=h.x.spot (by omega)
 have:=hc i (by rw[(RV S z).1];exact hi)
 have e2:(fixF S z)[i]'(by rw[(RV S z).1];exact hi)=fixB S z i:=by
  simp only[fixF,if_pos (ZP hi).1,List.getElem_map,List.getElem_range]
 rw[e2] at this
 exact⟨b,o,e,this⟩
theorem TdAt.atV (h:TdAt w S z v A1 n1 c1 A2 n2 c2 A3 n3 c3 A4 n4 c4 F nf cf X nx cx V nv cv){i:Nat}(hi:i < lim z)(hf:fixB S z i=true): ∃b o,V=some ⟨b,o,none⟩∧w.cell? ⟨b,o+i,none⟩=some (.int .u64 (valF z i:Int)):=by
 have hn:=h.sz
 obtain⟨b,o,e,-,hc⟩:=h.v.spot (by omega)
 have:=hc i (by rw[(RV S z).2];exact hi)
 have e2:(fvF S z)[i]'(by rw[(RV S z).2];exact hi)=valF z i:=by
  simp only[fvF,if_pos (ZP hi).1,List.getElem_map,List.getElem_range,if_pos hf]
 rw[e2] at this
 exact⟨b,o,e,this⟩
end
theorem U0 (v:Value)(S:Bo.Sr)(x y:Nat)(w:World)(hs:Bo.VH w v S)(hx:x < 18446744073709551616)(hy:y < 18446744073709551616)(r:Bool)(hr:S.below x y=r):
  Calls Tryz.prog 61 #[v,.int .u64 (x:Int),.int .u64 (y:Int)] w fun e w'=>e= .returned (.bool r)∧Below w.heap.size w w':=by
 rcases hs with⟨rfl,rfl⟩|hs
 ·(
 obtain rfl:false=r:=hr
 clear hx hy
 go_enter Tryz.func61,Tryz.ntmps61
 go_wp2
 go_ret
 exact⟨rfl,Below.refl _ _⟩)
 ·(
 rcases hs with⟨a,rfl,hA⟩|⟨a,rfl,hA⟩|⟨rfl,hA⟩
 all_goals(
 have hc:=hA.below w (Below.refl _ _) x y hx hy
 rw[hr] at hc
 have HC:=Hd hc
 clear hA hx hy hc
 go_enter Tryz.func61,Tryz.ntmps61
 go_wp2_with fail
 refine HC.out.mono ?_
 rintro e w1 ⟨rfl,hb⟩
 have HB:=Hd hb
 clear hb HC
 go_wp2_with fail
 go_ret
 exact⟨rfl,HB.out⟩))
theorem ZgX (g gi i k:Nat)(z:Sen)(v:Value)(A1:Option Addr)(n1 c1:Nat)(A2:Option Addr)(n2 c2:Nat)(A3:Option Addr)(n3 c3:Nat)(A4:Option Addr)(n4 c4:Nat)(F:Option Addr)(nf cf:Nat)(X:Option Addr)(nx cx:Nat)(V:Option Addr)(nv cv:Nat)(O:Option Addr)(no co:Nat)(w:World)(h:Zx w z A1 n1 c1 A2 n2 c2 A3 n3 c3 A4 n4 c4)(hz:TBx w g v A1 n1 c1 A2 n2 c2 A3 n3 c3 A4 n4 c4 F nf cf X nx cx V nv cv O no co)(hg:w.cell? ⟨gi,0,none⟩=some (.int .i64 (i:Int)))(hw:Zn z=true)(hi:i < n1)(hk:k < n1):
  Calls Tryz.prog 132 #[.int .i64 (k:Int),.pointer (some ⟨g,0,none⟩),.pointer (some ⟨gi,0,none⟩)] w fun e w'=>e= .returned (.bool (colB z i k))∧Below w.heap.size w w':=by
 have hl:=h.rp.len
 obtain⟨a1,a2,a3,a4,a5⟩:=ZE.1 hw
 have hn4:=h.rb.len
 obtain⟨b,o,b',o',y,rfl,e1,e2⟩:=Vp h hw (i:=k) (j:=i) (by omega) (by omega)
 have p4:=hz.p4
 have hkn:(k:Int) < (n4:Int):=by omega
 have hin:(i:Int) < (n1:Int):=by omega
 unfold colB
 generalize bb z k i=r at*
 clear h hz hw a1 a2 a3 a4 a5 hl hn4
 go_enter Tryz.func132,Tryz.ntmps132
 go_wp2
 go_still_tail 7,(by kernel_rfl)
 go_wp2
 go_ret
 exact⟨rfl,(Below.refl _ _).drew⟩
theorem ZgY (g gi i k:Nat)(z:Sen)(v:Value)(A1:Option Addr)(n1 c1:Nat)(A2:Option Addr)(n2 c2:Nat)(A3:Option Addr)(n3 c3:Nat)(A4:Option Addr)(n4 c4:Nat)(F:Option Addr)(nf cf:Nat)(X:Option Addr)(nx cx:Nat)(V:Option Addr)(nv cv:Nat)(O:Option Addr)(no co:Nat)(w:World)(h:Zx w z A1 n1 c1 A2 n2 c2 A3 n3 c3 A4 n4 c4)(hz:TBx w g v A1 n1 c1 A2 n2 c2 A3 n3 c3 A4 n4 c4 F nf cf X nx cx V nv cv O no co)(hg:w.cell? ⟨gi,0,none⟩=some (.int .i64 (i:Int)))(hw:Zn z=true)(hi:i < n1)(hk:k < n1):
  Calls Tryz.prog 131 #[.int .i64 (k:Int),.pointer (some ⟨g,0,none⟩),.pointer (some ⟨gi,0,none⟩)] w fun e w'=>e= .returned (.bool (rowB z i k))∧Below w.heap.size w w':=by
 have hl:=h.rp.len
 obtain⟨a1,a2,a3,a4,a5⟩:=ZE.1 hw
 have hn4:=h.rb.len
 obtain⟨b,o,b',o',y,rfl,e1,e2⟩:=Vp h hw (i:=i) (j:=k) (by omega) (by omega)
 have p4:=hz.p4
 have hkn:(i:Int) < (n4:Int):=by omega
 have hin:(k:Int) < (n1:Int):=by omega
 unfold rowB
 generalize bb z i k=r at*
 clear h hz hw a1 a2 a3 a4 a5 hl hn4
 go_enter Tryz.func131,Tryz.ntmps131
 go_wp2
 go_ret
 exact⟨rfl,Below.refl _ _⟩
def pkL (r:Nat→Bool)(n:Nat):List UInt8:=(List.range n).map fun k=>if r k=true then 1 else 0
def pk (r:Nat→Bool)(n:Nat):ByteArray:=str (pkL r n)
theorem Zmu {r s:Nat→Bool}{n:Nat}:pk r n=pk s n↔ ∀k < n,r k=s k:=by
 unfold pk pkL str
 constructor
 ·(
 intro h k hk
 have h1:(List.range n).map (fun k=>if r k=true then(1:UInt8) else 0)=(List.range n).map (fun k=>if s k=true then(1:UInt8) else 0):=by
  have:=congrArg ByteArray.data h
  simpa using congrArg Array.toList this
 have h2:=congrArg (fun l=>l[k]?) h1
 simp only[List.getElem?_map,List.getElem?_range hk,Option.map_some,Option.some.injEq] at h2
 cases e:r k <;> cases e':s k <;> rw[e,e'] at h2 <;> first|rfl|exact absurd h2 (by decide))
 ·intro h
  have:(List.range n).map (fun k=>if r k=true then(1:UInt8) else 0)=(List.range n).map (fun k=>if s k=true then(1:UInt8) else 0):=List.map_congr_left fun k hk=>by rw[h k (List.mem_range.1 hk)]
  rw[this]
end Go.Proofs.YtmejhedegmjboaaGreat.I
namespace Go.Proofs.YtmejhedegmjboaaGreat.I
open Go.RowKit PaC
def ucl (l:List UInt8):Array Value:=(l.map fun b=>Value.int .u8 (b.toNat:Int)).toArray
theorem Zi3 {l:List UInt8}{j:Nat}(h:j < l.length):(ucl l)[j]?=some (.int .u8 (l[j].toNat:Int)):=by
 rw[ucl,List.getElem?_toArray,List.getElem?_map,List.getElem?_eq_getElem h]
 rfl
theorem Zj5 (l:List UInt8)(j:Nat):(ucl l).setIfInBounds j (.int .u8 1)=ucl (l.set j 1):=by
 simp[ucl,List.map_set]
theorem inf5:(Tryz.prog.info? 5).map (fun i=>(i.zero,i.size,i.bytes))=some (some (.int .u8 0),1,1):=by kernel_rfl
theorem Zj6 (n:Nat)(h:n≤65536)(W:World):(Instr.makeSlice 235 (.int .i64 (n:Int)) (.int .i64 (n:Int))).run Tryz.prog W= .ok (.slice (some ⟨W.heap.size,0,none⟩) n n) (W.alloc (.cells (ucl (List.replicate n 0)) 5)):=by
 obtain⟨i0,hi0,hz0,hz1,hz2⟩:=info_parts inf5
 have:=run_make (P:=Tryz.prog) W 235 5 i0 _ Tryz.underlying235 hi0 hz0 .i64 .i64 n n (by omega) (Int.le_refl _) (by rw[hz2];omega) (by omega)
 rw[this,hz1,Nat.mul_one,Int.toNat_natCast]
 rw[show(Value.int .u8 0).cells= #[.int .u8 0] from rfl,show madeCells #[.int .u8 0] n=ucl (List.replicate n 0) from ?_]
 apply Array.ext
 ·simp[madeCells,ucl]
 ·intro i h1 h2
  simp[madeCells,ucl,Nat.mod_one]
theorem ZdV (l:List UInt8):strOfNums (l.map fun b=>(b.toNat:Int))=str l:=by
 apply ByteArray.ext
 apply Array.toList_inj.1
 rw[strOfNums_data,List.map_map]
 show _=l
 conv=>rhs;rw[← List.map_id l]
 apply List.map_congr_left
 intro x _
 simp
theorem Zj7 {w:World}{g n:Nat}{l:List UInt8}(h:w.heap[g]?=some (.cells (ucl l) 5 (0,0)))(hl:l.length=n):(convert 235 9 (.slice (some ⟨g,0,none⟩) n n)).run Tryz.prog w= .ok (.string (str l)) w:=by
 rcases Nat.eq_zero_or_pos n with hn|hn
 ·(
 have hl:l= []:=List.eq_nil_of_length_eq_zero (by omega)
 subst hl
 subst hn
 rw[run_convert_bytes_string w 235 9 5 (some ⟨g,0,none⟩) 0 0 Tryz.underlying235 Tryz.underlying5 Tryz.underlying9]
 have:=run_bytesToString (P:=Tryz.prog) w ⟨g,0,none⟩ 0 0 [] (by rfl)
 rw[this]
 rfl)
 ·have:=run_convert_bytes_arg (P:=Tryz.prog) w 235 5 Tryz.underlying235 Tryz.underlying5 g 0 n n (l.map fun b=>(b.toNat:Int)) (by simp[hl]) (fun i hi=>by
   have hi':i < l.length:=by omega
   rw[Nat.zero_add,Zb h,Zi3 hi']
   simp[hi']) 9 Tryz.underlying9
  rw[this,ZdV]
def pkI (r:Nat→Bool)(n i:Nat):List UInt8:=(List.range n).map fun k=>if (decide (k < i) && r k)=true then 1 else 0
theorem Zj8 (r:Nat→Bool)(n i:Nat):(pkI r n i).length=n:=by simp[pkI]
theorem Zhy (r:Nat→Bool)(n:Nat):List.replicate n 0=pkI r n 0:=by
 apply List.ext_getElem (by simp[pkI])
 intro k h1 h2
 simp[pkI]
theorem ZlC {r:Nat→Bool}{n i:Nat}(h:r i=false):pkI r n i=pkI r n (i+1):=by
 apply List.map_congr_left
 intro k _
 by_cases e:k=i
 ·subst e;rw[h,Bool.and_false,Bool.and_false]
 ·rw[Zep e]
theorem Zj9 {r:Nat→Bool}{n i:Nat}(h:r i=true):(pkI r n i).set i 1=pkI r n (i+1):=by
 apply List.ext_getElem (by simp[pkI])
 intro k h1 h2
 rw[List.getElem_set]
 by_cases e:i=k
 ·subst e;simp[pkI,h]
 ·rw[if_neg e]
  simp only[pkI,List.getElem_map,List.getElem_range]
  rw[Zep (Ne.symm e)]
theorem Zka (r:Nat→Bool)(n:Nat):pkI r n n=pkL r n:=by
 apply List.map_congr_left
 intro k hk
 rw[decide_eq_true (List.mem_range.1 hk),Bool.true_and]
theorem Rn (f:Nat)(p1 p2:Option Addr)(n:Nat)(r:Nat→Bool)(w:World)(hF:f=131∨f=132)(hn:n≤1000)(hT: ∀W,Below w.heap.size w W→HasF W f p1 p2 n r):
  Calls Tryz.prog 130 #[.int .i64 (n:Int),.func (.func f) #[] #[.pointer p1,.pointer p2]] w fun e w'=>e= .returned (.string (pk r n))∧Below w.heap.size w w':=by
 have HT:=Hd hT
 have HN:=Hd hn
 have HMK:Hid (∀W,(Instr.makeSlice 235 (.int .i64 (n:Int)) (.int .i64 (n:Int))).run Tryz.prog W= .ok (.slice (some ⟨W.heap.size,0,none⟩) n n) (W.alloc (.cells (ucl (List.replicate n 0)) 5))):=Hd fun W=>Zj6 n (by omega) W
 have hmk:=HMK.out
 clear hT hn
 rcases hF with rfl|rfl
 all_goals(
 go_enter Tryz.func130,Tryz.ntmps130
 go_wp2_with fail
 have HNEW:=Hd (show(w.alloc (.cells (ucl (List.replicate n 0)) 5)).heap[w.heap.size]?=some (.cells (ucl (pkI r n 0)) 5 (0,0)) from by rw[← Zhy];exact heap_alloc_new w _)
 have HB0:=Hd (show Below w.heap.size w (w.alloc (.cells (ucl (List.replicate n 0)) 5)) from bA)
 clear hmk HMK
 generalize w.alloc (.cells (ucl (List.replicate n 0)) 5)=w1 at*
 go_loopw [11] (fun v11 wr=> ∃i:Nat,v11= .int .i64 (i:Int)∧i≤n∧wr.heap[w.heap.size]?=some (.cells (ucl (pkI r n i)) 5 (0,0))∧Below w.heap.size w wr) (fun v11 _=>n - (intOf v11).toNat)
 case atStart=>exact⟨0,rfl,Nat.zero_le _,HNEW.out,HB0.out⟩
 case round=>
  clear HNEW HB0
  obtain⟨i,rfl,hi,hk,hb⟩:=hrel
  by_cases hlt:i < n
  ·(
 have hc:=HT.out _ hb i hlt
 obtain⟨x,hx⟩: ∃x,r i=x:=⟨_,rfl⟩
 rw[hx] at hc
 have HC:=Hd hc
 have HB:=Hd hb
 have HLT:=Hd hlt
 have HX:=Hd hx
 have HK:=Hd hk
 have hin:(i:Int) < (n:Int):=by omega
 have hi9:i≤60000:=by have:=HN.out;omega
 clear hc hb hlt hi hx hk
 go_wp2_with fail
 refine HC.out.mono ?_
 rintro e w2 ⟨rfl,hb1⟩
 have HB1:=Hd (HB.out.trans (hb1.mono HB.out.size))
 have HK1:=Hd ((hb1.block _ (Zh HK.out)).trans HK.out)
 clear hb1 HC HK HB
 cases x with
 |false=>(
 go_wp2_with fail
 go_roundw
 case rel=>exact⟨i+1,by go_num,HLT.out,by rw[← ZlC HX.out];exact HK1.out,HB1.out⟩
 case measure=>(
 have:=HLT.out
 simp[intOf]
 omega))
 |true=>(
 have d0:=(Zb (i:=i) HK1.out).trans (Zi3 (by rw[Zj8];exact HLT.out))
 have f0:=Zc (i:=i) HK1.out
 have HST:=Hd (show(w2.setCell ⟨w.heap.size,i,none⟩ (.int .u8 1)).heap[w.heap.size]?=some (.cells (ucl (pkI r n (i+1))) 5 (0,0)) from by
  rw[← Zj9 HX.out, ← Zj5]
  exact Zm HK1.out _)
 have HBS:=Hd (Zp HB1.out (Nat.le_refl w.heap.size) (p:=⟨w.heap.size,i,none⟩) (.int .u8 1))
 go_wp2_with fail
 go_roundw
 case rel=>exact⟨i+1,by go_num,HLT.out,HST.out,HBS.out⟩
 case measure=>(
 have:=HLT.out
 simp[intOf]
 omega)))
  ·obtain rfl:i=n:=by omega
   have HCV:Hid ((convert 235 9 (.slice (some ⟨w.heap.size,0,none⟩) i i)).run Tryz.prog wr= .ok (.string (pk r i)) wr):=Hd (by
 rw[Zka] at hk
 exact Zj7 hk (by simp[pkL]))
   have hcv:=HCV.out
   have HB:=Hd hb
   clear hlt hi hk hb
   go_wp2_with fail
   go_ret
   exact⟨rfl,HB.out⟩)
def tieV (x:Nat)(s:ByteArray):Value:= .agg #[.int .u64 (x:Int),.string s]
structure TiR (w:World)(g j gi b o i x:Nat)(A:Option Addr)(n c:Nat)(F:Option Addr)(nf cf:Nat):Prop where
 a:w.cell? ⟨g,j,none⟩=some (.slice A n c)
 f:w.cell? ⟨g,5,none⟩=some (.slice F nf cf)
 ii:w.cell? ⟨gi,0,none⟩=some (.int .i64 (i:Int))
 x:w.cell? ⟨b,o+i,none⟩=some (.int .u64 (x:Int))
theorem TiR.keep {w W:World}{g j gi b o i x:Nat}{A:Option Addr}{n c:Nat}{F:Option Addr}{nf cf:Nat}(h:TiR w g j gi b o i x A n c F nf cf)(hb:Below w.heap.size w W):TiR W g j gi b o i x A n c F nf cf:=
 ⟨Za h.a hb,Za h.f hb,Za h.ii hb,Za h.x hb⟩
theorem ZdW (i:Nat)(S:Bo.Sr)(z:Sen)(v:Value)(A1:Option Addr)(n1 c1:Nat)(A2:Option Addr)(n2 c2:Nat)(A3:Option Addr)(n3 c3:Nat)(A4:Option Addr)(n4 c4:Nat)(F:Option Addr)(nf cf:Nat)(X:Option Addr)(nx cx:Nat)(V:Option Addr)(nv cv:Nat)(O:Option Addr)(no co:Nat)(w:World)(h:TdAt w S z v A1 n1 c1 A2 n2 c2 A3 n3 c3 A4 n4 c4 F nf cf X nx cx V nv cv)(hi:i < lim z):
  Calls Tryz.prog 88 #[tdV v A1 n1 c1 A2 n2 c2 A3 n3 c3 A4 n4 c4 F nf cf X nx cx V nv cv O no co,.int .i64 (i:Int)] w fun e w'=>e= .returned (tieV (hg z i) (pk (rowB z i) z.p.length))∧Below w.heap.size w w':=by
 obtain⟨hw,hip⟩:=ZP hi
 obtain⟨hl1,hl2,hl3,hl4,hl5,hl6,hl7⟩:=h.lens hw
 have hnf:=h.sz
 rw[QQ hw] at hnf
 have hN:=h.le
 obtain⟨b,o,hA,ex,fx⟩:=ZG h.sen.rh h.sen.fh (i:=i) (by omega)
 have hval:hg z i=_:=Y1 (by omega)
 rw[← hval] at ex
 rw[hA] at h ⊢
 have HSEN:Hid (∀W,Below w.heap.size w W→Zx W z A1 n1 c1 A2 n2 c2 (some ⟨b,o,none⟩) n3 c3 A4 n4 c4):=Hd fun W hW=>(h.keep hW).sen
 generalize hg z i=x at*
 obtain⟨wa,hwa⟩: ∃wa,w.alloc (.cells #[v,.slice A1 n1 c1,.slice A2 n2 c2,.slice (some ⟨b,o,none⟩) n3 c3,.slice A4 n4 c4,.slice F nf cf,.slice X nx cx,.slice V nv cv,.slice O no co] 108)=wa:=⟨_,rfl⟩
 obtain⟨wb,hwb⟩: ∃wb,wa.alloc (.cells #[.int .i64 (i:Int)] 3)=wb:=⟨_,rfl⟩
 obtain⟨wc,hwc⟩: ∃wc,wb.alloc (.cells #[.int .u64 0,.string {data:= #[]}] 210)=wc:=⟨_,rfl⟩
 have sa:wa.heap.size=w.heap.size+1:=by rw[← hwa,World.size_alloc]
 have sb:wb.heap.size=w.heap.size+1+1:=by rw[← hwb,World.size_alloc,sa]
 have ba:Below w.heap.size w wa:=hwa▸bA
 have bb':Below wa.heap.size wa wb:=hwb▸bA
 have bc:Below wb.heap.size wb wc:=hwc▸bA
 have kc:wc.heap[w.heap.size+1+1]?=some (.cells #[.int .u64 0,.string {data:= #[]}] 210 (0,0)):=by rw[← sb, ← hwc];exact heap_alloc_new wb _
 have kb:wc.heap[w.heap.size+1]?=some (.cells #[.int .i64 (i:Int)] 3 (0,0)):=(bc.block _ (by omega)).trans (by rw[← sa, ← hwb];exact heap_alloc_new wa _)
 have ka:wc.heap[w.heap.size]?=some (.cells #[v,.slice A1 n1 c1,.slice A2 n2 c2,.slice (some ⟨b,o,none⟩) n3 c3,.slice A4 n4 c4,.slice F nf cf,.slice X nx cx,.slice V nv cv,.slice O no co] 108 (0,0)):=(bc.block _ (by omega)).trans ((bb'.block _ (by omega)).trans (by rw[← hwa];exact heap_alloc_new w _))
 have bwc:Below w.heap.size w wc:=ba.trans ((bb'.trans (bc.mono bb'.size)).mono ba.size)
 have hx:=TBx.of ka
 have hti:TiR wc w.heap.size 3 (w.heap.size+1) b o i x (some ⟨b,o,none⟩) n3 c3 F nf cf:=⟨hx.p3,hx.p5,(Zb (i:=0) kb).trans rfl,Za ex bwc⟩
 have HX:=Hd hx
 have HTI:=Hd hti
 have HBC:=Hd bwc
 have HKC:=Hd kc
 have HKB:=Hd kb
 have HW:=Hd hw
 have HI:Hid (i < n1):=Hd (by omega)
 have HNF:Hid (nf=n1):=Hd (by omega)
 have HN:Hid (n1≤400):=Hd hN
 have HP:Hid (z.p.length=n1):=Hd hl1
 have hxi:(i:Int) < (n3:Int):=by omega
 have HPK:Hid (∀W,Below wc.heap.size wc W→Calls Tryz.prog 130 #[.int .i64 (nf:Int),.func (.func 131) #[] #[.pointer (some ⟨w.heap.size,0,none⟩),.pointer (some ⟨w.heap.size+1,0,none⟩)]] W fun e w'=>e= .returned (.string (pk (rowB z i) nf))∧Below W.heap.size W w'):=Hd fun W hW=>
  Rn 131 _ _ nf (rowB z i) W (by simp) (by have:=HN.out;have:=HNF.out;omega) fun U hU k hk=>by(
 have hk:k < n1:=by have:=HNF.out;omega
 have hWU:=hW.trans (hU.mono hW.size)
 exact ZgY w.heap.size (w.heap.size+1) i k z v A1 n1 c1 A2 n2 c2 (some ⟨b,o,none⟩) n3 c3 A4 n4 c4 F nf cf X nx cx V nv cv O no co U (HSEN.out U (HBC.out.trans (hWU.mono HBC.out.size))) (HX.out.keep hWU) (Za ((Zb (i:=0) HKB.out).trans rfl) hWU) HW.out HI.out hk)
 clear h hi hw hip hl1 hl2 hl3 hl4 hl5 hl6 hl7 hnf hN ex fx hval sa sb ba bb' bc kc kb ka bwc hx
 unfold tdV tieV
 rw[HP.out.trans HNF.out.symm]
 generalize pk (rowB z i) nf=s at*
 subst hwa hwb
 go_enter Tryz.func88,Tryz.ntmps88
 go_wp2_with fail
 generalize hwd:World.alloc (World.alloc (World.alloc _ _) _) _=wd'
 obtain rfl:wc=wd':=hwc.symm.trans hwd
 clear hwc hwd
 refine wro [0,1,2,3,4,5,6,7,8,9,10,11,12] [10,12] 12 (fun W=>TiR W w.heap.size 3 (w.heap.size+1) b o i x (some ⟨b,o,none⟩) n3 c3 F nf cf) (by kernel_rfl) (fun _ _ _ _ _ h=>h) ⟨hti.a,hti.f,hti.ii,hti.x⟩ ?_
 simp only[steps,sE,sD]
 clear hti
 repeat((first|refine Zf rfl ?_|(refine Zd (v:= ?_) rfl rfl ?_ ?_;rotate_left;(focus(rintro w' ⟨x0,x1,x2,x3⟩;go_simp;try with_reducible rfl))));simp only[Act.put,sA,sB,sC])
 have HTD:=Hd (HTI.out.keep (Below.refl wc.heap.size wc).drew)
 have HKD:=Hd (show wc.drew.heap[w.heap.size+1+1]?=some (.cells #[.int .u64 0,.string {data:= #[]}] 210 (0,0)) from HKC.out)
 have HBD:=Hd ((Below.refl wc.heap.size wc).drew)
 clear HTI HKC
 generalize World.drew _=wd at*
 refine Ze rfl rfl (fun K hK=> ?_)
 go_simp
 refine(HPK.out wd HBD.out).mono ?_
 rintro e w4 ⟨rfl,hv⟩
 have hs4:=HTD.out.keep hv
 have HK4:=Hd ((hv.block _ (Zh HKD.out)).trans HKD.out)
 have HB4:=Hd (HBC.out.trans ((HBD.out.trans (hv.mono HBD.out.size)).mono HBC.out.size))
 refine hK.out _ _ (fun _=>hs4) ?_
 clear hK K hs4 hv HTD HKD HBD HPK
 try simp only[Act.put,sA,sB,sC]
 repeat((first|refine Zf rfl ?_|(refine Zd (v:= ?_) rfl rfl ?_ ?_;rotate_left;(focus(rintro w' ⟨x0,x1,x2,x3⟩;go_simp;try with_reducible rfl))));simp only[Act.put,sA,sB,sC])
 have e0:w4.cell? ⟨w.heap.size+1+1,0,none⟩=some (.int .u64 0):=(Zb (i:=0) HK4.out).trans rfl
 have e1:w4.cell? ⟨w.heap.size+1+1,1,none⟩=some (.string {data:= #[]}):=(Zb (i:=1) HK4.out).trans rfl
 have f0:w4.frozen? ⟨w.heap.size+1+1,0,none⟩=false:=Zc HK4.out
 have f1:w4.frozen? ⟨w.heap.size+1+1,1,none⟩=false:=Zc HK4.out
 refine Ze rfl rfl (fun K hK=> ?_)
 go_simp
 have HS1:=Hd (Zm HK4.out (.int .u64 (x:Int)) (i:=0))
 have HS2:=Hd (Zm HS1.out (.string s) (i:=1))
 have HB5:=Hd (Zp (Zp HB4.out (show w.heap.size≤w.heap.size+1+1 by omega) (p:=⟨w.heap.size+1+1,0,none⟩) (.int .u64 (x:Int))) (show w.heap.size≤w.heap.size+1+1 by omega) (p:=⟨w.heap.size+1+1,1,none⟩) (.string s))
 refine hK.out _ _ (fun h=>absurd rfl h) ?_
 clear hK K e0 e1 f0 f1
 try simp only[Act.put,sA,sB,sC]
 refine Zg ?_
 go_wp2_with fail
 refine bodyPost_ret (v:= .agg #[.int .u64 (x:Int),.string s]) ?_ rfl ⟨rfl,HB5.out⟩
 exact results_cell_row (P:=Tryz.prog) rfl _ _ (w.heap.size+1+1) 210 _ (0,0) _ rfl HS2.out Tryz.underlying210 rfl rfl
theorem ZbW (i:Nat)(S:Bo.Sr)(z:Sen)(v:Value)(A1:Option Addr)(n1 c1:Nat)(A2:Option Addr)(n2 c2:Nat)(A3:Option Addr)(n3 c3:Nat)(A4:Option Addr)(n4 c4:Nat)(F:Option Addr)(nf cf:Nat)(X:Option Addr)(nx cx:Nat)(V:Option Addr)(nv cv:Nat)(O:Option Addr)(no co:Nat)(w:World)(h:TdAt w S z v A1 n1 c1 A2 n2 c2 A3 n3 c3 A4 n4 c4 F nf cf X nx cx V nv cv)(hi:i < lim z):
  Calls Tryz.prog 89 #[tdV v A1 n1 c1 A2 n2 c2 A3 n3 c3 A4 n4 c4 F nf cf X nx cx V nv cv O no co,.int .i64 (i:Int)] w fun e w'=>e= .returned (tieV (lw z i) (pk (colB z i) z.p.length))∧Below w.heap.size w w':=by
 obtain⟨hw,hip⟩:=ZP hi
 obtain⟨hl1,hl2,hl3,hl4,hl5,hl6,hl7⟩:=h.lens hw
 have hnf:=h.sz
 rw[QQ hw] at hnf
 have hN:=h.le
 obtain⟨b,o,hA,ex,fx⟩:=ZG h.sen.rl h.sen.fl (i:=i) (by omega)
 have hval:lw z i=_:=KA (by omega)
 rw[← hval] at ex
 rw[hA] at h ⊢
 have HSEN:Hid (∀W,Below w.heap.size w W→Zx W z A1 n1 c1 (some ⟨b,o,none⟩) n2 c2 A3 n3 c3 A4 n4 c4):=Hd fun W hW=>(h.keep hW).sen
 generalize lw z i=x at*
 obtain⟨wa,hwa⟩: ∃wa,w.alloc (.cells #[v,.slice A1 n1 c1,.slice (some ⟨b,o,none⟩) n2 c2,.slice A3 n3 c3,.slice A4 n4 c4,.slice F nf cf,.slice X nx cx,.slice V nv cv,.slice O no co] 108)=wa:=⟨_,rfl⟩
 obtain⟨wb,hwb⟩: ∃wb,wa.alloc (.cells #[.int .i64 (i:Int)] 3)=wb:=⟨_,rfl⟩
 obtain⟨wc,hwc⟩: ∃wc,wb.alloc (.cells #[.int .u64 0,.string {data:= #[]}] 210)=wc:=⟨_,rfl⟩
 have sa:wa.heap.size=w.heap.size+1:=by rw[← hwa,World.size_alloc]
 have sb:wb.heap.size=w.heap.size+1+1:=by rw[← hwb,World.size_alloc,sa]
 have ba:Below w.heap.size w wa:=hwa▸bA
 have bb':Below wa.heap.size wa wb:=hwb▸bA
 have bc:Below wb.heap.size wb wc:=hwc▸bA
 have kc:wc.heap[w.heap.size+1+1]?=some (.cells #[.int .u64 0,.string {data:= #[]}] 210 (0,0)):=by rw[← sb, ← hwc];exact heap_alloc_new wb _
 have kb:wc.heap[w.heap.size+1]?=some (.cells #[.int .i64 (i:Int)] 3 (0,0)):=(bc.block _ (by omega)).trans (by rw[← sa, ← hwb];exact heap_alloc_new wa _)
 have ka:wc.heap[w.heap.size]?=some (.cells #[v,.slice A1 n1 c1,.slice (some ⟨b,o,none⟩) n2 c2,.slice A3 n3 c3,.slice A4 n4 c4,.slice F nf cf,.slice X nx cx,.slice V nv cv,.slice O no co] 108 (0,0)):=(bc.block _ (by omega)).trans ((bb'.block _ (by omega)).trans (by rw[← hwa];exact heap_alloc_new w _))
 have bwc:Below w.heap.size w wc:=ba.trans ((bb'.trans (bc.mono bb'.size)).mono ba.size)
 have hx:=TBx.of ka
 have hti:TiR wc w.heap.size 2 (w.heap.size+1) b o i x (some ⟨b,o,none⟩) n2 c2 F nf cf:=⟨hx.p2,hx.p5,(Zb (i:=0) kb).trans rfl,Za ex bwc⟩
 have HX:=Hd hx
 have HTI:=Hd hti
 have HBC:=Hd bwc
 have HKC:=Hd kc
 have HKB:=Hd kb
 have HW:=Hd hw
 have HI:Hid (i < n1):=Hd (by omega)
 have HNF:Hid (nf=n1):=Hd (by omega)
 have HN:Hid (n1≤400):=Hd hN
 have HP:Hid (z.p.length=n1):=Hd hl1
 have hxi:(i:Int) < (n2:Int):=by omega
 have HPK:Hid (∀W,Below wc.heap.size wc W→Calls Tryz.prog 130 #[.int .i64 (nf:Int),.func (.func 132) #[] #[.pointer (some ⟨w.heap.size,0,none⟩),.pointer (some ⟨w.heap.size+1,0,none⟩)]] W fun e w'=>e= .returned (.string (pk (colB z i) nf))∧Below W.heap.size W w'):=Hd fun W hW=>
  Rn 132 _ _ nf (colB z i) W (by simp) (by have:=HN.out;have:=HNF.out;omega) fun U hU k hk=>by(
 have hk:k < n1:=by have:=HNF.out;omega
 have hWU:=hW.trans (hU.mono hW.size)
 exact ZgX w.heap.size (w.heap.size+1) i k z v A1 n1 c1 (some ⟨b,o,none⟩) n2 c2 A3 n3 c3 A4 n4 c4 F nf cf X nx cx V nv cv O no co U (HSEN.out U (HBC.out.trans (hWU.mono HBC.out.size))) (HX.out.keep hWU) (Za ((Zb (i:=0) HKB.out).trans rfl) hWU) HW.out HI.out hk)
 clear h hi hw hip hl1 hl2 hl3 hl4 hl5 hl6 hl7 hnf hN ex fx hval sa sb ba bb' bc kc kb ka bwc hx
 unfold tdV tieV
 rw[HP.out.trans HNF.out.symm]
 generalize pk (colB z i) nf=s at*
 subst hwa hwb
 go_enter Tryz.func89,Tryz.ntmps89
 go_wp2_with fail
 generalize hwd:World.alloc (World.alloc (World.alloc _ _) _) _=wd'
 obtain rfl:wc=wd':=hwc.symm.trans hwd
 clear hwc hwd
 refine wro [0,1,2,3,4,5,6,7,8,9,10,11,12] [10,12] 12 (fun W=>TiR W w.heap.size 2 (w.heap.size+1) b o i x (some ⟨b,o,none⟩) n2 c2 F nf cf) (by kernel_rfl) (fun _ _ _ _ _ h=>h) ⟨hti.a,hti.f,hti.ii,hti.x⟩ ?_
 simp only[steps,sE,sD]
 clear hti
 repeat((first|refine Zf rfl ?_|(refine Zd (v:= ?_) rfl rfl ?_ ?_;rotate_left;(focus(rintro w' ⟨x0,x1,x2,x3⟩;go_simp;try with_reducible rfl))));simp only[Act.put,sA,sB,sC])
 have HTD:=Hd (HTI.out.keep (Below.refl wc.heap.size wc).drew)
 have HKD:=Hd (show wc.drew.heap[w.heap.size+1+1]?=some (.cells #[.int .u64 0,.string {data:= #[]}] 210 (0,0)) from HKC.out)
 have HBD:=Hd ((Below.refl wc.heap.size wc).drew)
 clear HTI HKC
 generalize World.drew _=wd at*
 refine Ze rfl rfl (fun K hK=> ?_)
 go_simp
 refine(HPK.out wd HBD.out).mono ?_
 rintro e w4 ⟨rfl,hv⟩
 have hs4:=HTD.out.keep hv
 have HK4:=Hd ((hv.block _ (Zh HKD.out)).trans HKD.out)
 have HB4:=Hd (HBC.out.trans ((HBD.out.trans (hv.mono HBD.out.size)).mono HBC.out.size))
 refine hK.out _ _ (fun _=>hs4) ?_
 clear hK K hs4 hv HTD HKD HBD HPK
 try simp only[Act.put,sA,sB,sC]
 repeat((first|refine Zf rfl ?_|(refine Zd (v:= ?_) rfl rfl ?_ ?_;rotate_left;(focus(rintro w' ⟨x0,x1,x2,x3⟩;go_simp;try with_reducible rfl))));simp only[Act.put,sA,sB,sC])
 have e0:w4.cell? ⟨w.heap.size+1+1,0,none⟩=some (.int .u64 0):=(Zb (i:=0) HK4.out).trans rfl
 have e1:w4.cell? ⟨w.heap.size+1+1,1,none⟩=some (.string {data:= #[]}):=(Zb (i:=1) HK4.out).trans rfl
 have f0:w4.frozen? ⟨w.heap.size+1+1,0,none⟩=false:=Zc HK4.out
 have f1:w4.frozen? ⟨w.heap.size+1+1,1,none⟩=false:=Zc HK4.out
 refine Ze rfl rfl (fun K hK=> ?_)
 go_simp
 have HS1:=Hd (Zm HK4.out (.int .u64 (x:Int)) (i:=0))
 have HS2:=Hd (Zm HS1.out (.string s) (i:=1))
 have HB5:=Hd (Zp (Zp HB4.out (show w.heap.size≤w.heap.size+1+1 by omega) (p:=⟨w.heap.size+1+1,0,none⟩) (.int .u64 (x:Int))) (show w.heap.size≤w.heap.size+1+1 by omega) (p:=⟨w.heap.size+1+1,1,none⟩) (.string s))
 refine hK.out _ _ (fun h=>absurd rfl h) ?_
 clear hK K e0 e1 f0 f1
 try simp only[Act.put,sA,sB,sC]
 refine Zg ?_
 go_wp2_with fail
 refine bodyPost_ret (v:= .agg #[.int .u64 (x:Int),.string s]) ?_ rfl ⟨rfl,HB5.out⟩
 exact results_cell_row (P:=Tryz.prog) rfl _ _ (w.heap.size+1+1) 210 _ (0,0) _ rfl HS2.out Tryz.underlying210 rfl rfl
end Go.Proofs.YtmejhedegmjboaaGreat.I
