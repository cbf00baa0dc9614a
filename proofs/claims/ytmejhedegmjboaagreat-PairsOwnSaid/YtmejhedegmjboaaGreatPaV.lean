/- What may be one variable: what bounds between variables say of spots. Conditions: what a scheme's sense is. -/
/- The variables of a sense: their classes, and that they keep what is asked of variables. Conditions: a scheme's sense. -/
import Derived.Test.YtmejhedegmjboaaGreatPaC
namespace Go.Proofs.YtmejhedegmjboaaGreat.PaM
structure Laws (s lo hi:Nat→Nat)(B:Nat→Nat→Bool)(le:Nat→Nat→Prop):Prop where
 out: ∀i j,B i j=true→s i≠0∧s j≠1
 self: ∀i j,B i j=true→(s i=2→B i i=true)∧(s j=2→B j j=true)
 trans: ∀i j k,B i j=true→B j k=true→B i k=true
 low: ∀i j,B i j=true→le (lo i) (lo j)
 high: ∀i j,B i j=true→le (hi i) (hi j)
 letr: ∀a b c,le a b→le b c→le a c
 anti: ∀a b,le a b→le b a→a=b
structure One (lo hi:Nat→Nat)(B:Nat→Nat→Bool)(le:Nat→Nat→Prop)(u d:Nat):Prop where
 at':B d u=true
 lohi:le (lo u) (hi d)
 on: ∀k m,B k u=true→B d m=true→B k m=true
 low: ∀m,B d m=true→le (lo u) (lo m)
 high: ∀k,B k u=true→le (hi k) (hi d)
section
variable {s lo hi:Nat→Nat} {B:Nat→Nat→Bool} {le:Nat→Nat→Prop} (L:Laws s lo hi B le)
structure Vars (m:Nat)(inn out:Nat→Option Nat)(lo hi:Nat→Nat)(B:Nat→Nat→Bool)(le:Nat→Nat→Prop):Prop where
 one: ∀x u d,x < m→inn x=some u→out x=some d→One lo hi B le u d
 apart: ∀x y d d',x < m→y < m→out x=some d→out y=some d'→(∀k,B d k=B d' k)→hi d=hi d'→x=y
variable {m:Nat} {inn out:Nat→Option Nat} (V:Vars m inn out lo hi B le)
def Wk (m:Nat)(inn out:Nat→Option Nat)(B:Nat→Nat→Bool)(x y:Nat):Prop:=x < m∧y < m∧x≠y∧ ∃d u,out x=some d∧inn y=some u∧B d u=true
def Und (m:Nat)(inn out:Nat→Option Nat)(hi lo:Nat→Nat)(B:Nat→Nat→Bool)(le:Nat→Nat→Prop)(x y:Nat):Prop:=x < m∧y < m∧x≠y∧ ∃d u,out x=some d∧inn y=some u∧B d u=true∧ ¬le (hi d) (lo u)
theorem Und.wk {x y:Nat}(h:Und m inn out hi lo B le x y):Wk m inn out B x y:=by
 obtain⟨h1,h2,h3,d,u,h4,h5,h6,-⟩:=h
 exact⟨h1,h2,h3,d,u,h4,h5,h6⟩
include L V in
theorem wk_anti {x y:Nat}(h:Wk m inn out B x y)(k:Wk m inn out B y x):False:=by
 obtain⟨h1,h2,h3,d,u,h4,h5,h6⟩:=h
 obtain⟨-,-,-,d',u',k4,k5,k6⟩:=k
 have ox:=V.one x u' d h1 k5 h4
 have oy:=V.one y u d' h2 h5 k4
 refine h3 (V.apart x y d d' h1 h2 h4 k4 (fun q=> ?_) (L.anti _ _ (oy.high d h6) (ox.high d' k6)))
 cases e:B d q with
 |true=>exact(ox.on d' q k6 e).symm
 |false=>
  cases e':B d' q with
  |false=>rfl
  |true=>exact absurd (oy.on d q h6 e') (by rw[e];simp)
include L V in
theorem wk_trans {x y z:Nat}(h:Wk m inn out B x y)(k:Wk m inn out B y z):Wk m inn out B x z:=by
 have hne:x≠z:=fun e=>by
  subst e
  exact wk_anti L V h k
 obtain⟨h1,h2,h3,d,u,h4,h5,h6⟩:=h
 obtain⟨-,k2,-,d',u',k4,k5,k6⟩:=k
 exact⟨h1,k2,hne,d,u',h4,k5,(V.one y u d' h2 h5 k4).on d u' h6 k6⟩
inductive Reach (R:Nat→Nat→Prop):Nat→Nat→Prop
 |self (x:Nat):Reach R x x
 |step {x y z:Nat}:R x y→Reach R y z→Reach R x z
theorem Reach.trans {R:Nat→Nat→Prop}{x y z:Nat}(h:Reach R x y)(k:Reach R y z):Reach R x z:=by
 induction h with
 |self=>exact k
 |step r _ ih=>exact .step r (ih k)
def Cov (m:Nat)(inn out:Nat→Option Nat)(hi lo:Nat→Nat)(B:Nat→Nat→Bool)(le:Nat→Nat→Prop)(x y:Nat):Prop:=Und m inn out hi lo B le x y∧ ¬ ∃z,Und m inn out hi lo B le x z∧Und m inn out hi lo B le z y
open Classical in
noncomputable def betw (m:Nat) (inn out:Nat→Option Nat) (B:Nat→Nat→Bool) (x y:Nat):Nat:=((List.range m).filter fun z=>decide (Wk m inn out B x z∧Wk m inn out B z y)).length
theorem filter_lt {α:Type}{p q:α→Bool}: ∀{l:List α},(∀x∈l,p x=true→q x=true)→(∃x∈l,q x=true∧p x=false)→(l.filter p).length < (l.filter q).length
 | [],_,⟨x,hx,_⟩=>by simp at hx
 |a::l,h,⟨x,hx,h1,h2⟩=>by
  have hle: ∀{l:List α},(∀x∈l,p x=true→q x=true)→(l.filter p).length≤(l.filter q).length:=by
   intro l
   induction l with
   |nil=>intro _;simp
   |cons b l ih=>
    intro h
    have:=ih fun x hx=>h x (List.mem_cons_of_mem _ hx)
    rw[List.filter_cons,List.filter_cons]
    cases e:p b with
    |true=>
     rw[h b (by simp) e]
     simpa using this
    |false=>cases q b <;> simp <;> omega
  rw[List.filter_cons,List.filter_cons]
  rcases List.mem_cons.1 hx with rfl|hx
  ·rw[h1,h2]
   have:=hle fun y hy=>h y (List.mem_cons_of_mem _ hy)
   simp
   omega
  ·have ih:=filter_lt (fun y hy=>h y (List.mem_cons_of_mem _ hy)) ⟨x,hx,h1,h2⟩
   cases e:p a with
   |true=>
    rw[h a (by simp) e]
    simpa using ih
   |false=>cases q a <;> simp <;> omega
open Classical in
include L V in
theorem und_reach: ∀(N:Nat) {x y:Nat},betw m inn out B x y < N→Und m inn out hi lo B le x y→Reach (Cov m inn out hi lo B le) x y
 |0,_,_,h,_=>by omega
 |N+1,x,y,h,hu=>by
  by_cases hz: ∃z,Und m inn out hi lo B le x z∧Und m inn out hi lo B le z y
  ·obtain⟨z,h1,h2⟩:=hz
   have hzm:z∈List.range m:=List.mem_range.2 h2.1
   have a1:betw m inn out B x z < betw m inn out B x y:=filter_lt (fun w _ hw=>by
    have hw:=of_decide_eq_true hw
    exact decide_eq_true ⟨hw.1,wk_trans L V hw.2 h2.wk⟩) ⟨z,hzm,decide_eq_true ⟨h1.wk,h2.wk⟩,decide_eq_false fun e=>e.2.2.2.1 rfl⟩
   have a2:betw m inn out B z y < betw m inn out B x y:=filter_lt (fun w _ hw=>by
    have hw:=of_decide_eq_true hw
    exact decide_eq_true ⟨wk_trans L V h1.wk hw.1,hw.2⟩) ⟨z,hzm,decide_eq_true ⟨h1.wk,h2.wk⟩,decide_eq_false fun e=>e.1.2.2.1 rfl⟩
   exact(und_reach N (by omega) h1).trans (und_reach N (by omega) h2)
  ·exact .step ⟨hu,hz⟩ (.self y)
include V in
theorem reach_below {x y d u:Nat}(hr:Reach (Cov m inn out hi lo B le) x y)(hx:x < m)(hd:out x=some d)(hu:inn y=some u):B d u=true:=by
 induction hr generalizing d with
 |self x=>exact(V.one x u d hx hu hd).at'
 | @step x z y h r ih=>
  obtain⟨⟨-,hz,-,d1,u1,e1,e2,e3,-⟩,-⟩:=h
  rw[hd] at e1
  injection e1 with e1
  subst e1
  cases r with
  |self=>
   rw[hu] at e2
   injection e2 with e2
   subst e2
   exact e3
  | @step _ w _ h' r'=>
   obtain⟨⟨-,hw,-,d2,u2,f1,f2,f3,-⟩,-⟩:=h'
   exact(V.one z u1 d2 hz e2 f1).on _ _ e3 (ih hz f1 hu)
include L V in
theorem below_iff (hends: ∀x y d u,x < m→y < m→out x=some d→inn y=some u→le (hi d) (lo u)→B d u=true){x y d u:Nat}(hx:x < m)(hy:y < m)(hd:out x=some d)(hu:inn y=some u):
  B d u=true↔Reach (Cov m inn out hi lo B le) x y∨le (hi d) (lo u):=by
 constructor
 ·intro h
  by_cases e:x=y
  ·subst e
   exact .inl (.self x)
  ·by_cases hle:le (hi d) (lo u)
   ·exact .inr hle
   ·exact .inl (und_reach L V _ (Nat.lt_succ_self _) ⟨hx,hy,e,d,u,hd,hu,h,hle⟩)
 ·rintro(h|h)
  ·exact reach_below V h hx hd hu
  ·exact hends x y d u hx hy hd hu h
include V in
theorem und_mono {x y:Nat}(h:Und m inn out hi lo B le x y):(∀u u',inn x=some u→inn y=some u'→le (lo u) (lo u'))∧ ∀d d',out x=some d→out y=some d'→le (hi d) (hi d'):=by
 obtain⟨h1,h2,h3,d,u,h4,h5,h6,-⟩:=h
 refine⟨fun v v' e e'=> ?_,fun v v' e e'=> ?_⟩
 ·rw[h5] at e'
  injection e' with e'
  subst e'
  exact(V.one x v d h1 e h4).low u h6
 ·rw[h4] at e
  injection e with e
  subst e
  exact(V.one y u v' h2 h5 e').high d h6
def SameOut (hi:Nat→Nat)(B:Nat→Nat→Bool)(d b:Nat):Prop:=(∀k,B d k=B b k)∧hi d=hi b
def SameIn (lo:Nat→Nat)(B:Nat→Nat→Bool)(u b:Nat):Prop:=(∀k,B k u=B k b)∧lo u=lo b
theorem bool_same {a b:Bool}(h:a=true→b=true)(k:b=true→a=true):a=b:=by
 cases a <;> cases b <;> simp_all
include L in
theorem one_both {b:Nat}(hb:B b b=true)(hl:le (lo b) (hi b)):One lo hi B le b b:=
 ⟨hb,hl,fun k m h1 h2=>L.trans k b m h1 h2,fun m h=>L.low b m h,fun k h=>L.high k b h⟩
theorem one_inn {u b d:Nat}(h:One lo hi B le b d)(e:SameIn lo B u b):One lo hi B le u d:=
 ⟨(e.1 d).trans h.at',by rw[e.2];exact h.lohi,fun k m h1 h2=>h.on k m ((e.1 k).symm.trans h1) h2,fun m h1=>by rw[e.2];exact h.low m h1,fun k h1=>h.high k ((e.1 k).symm.trans h1)⟩
theorem one_outs {u b d:Nat}(h:One lo hi B le u b)(e:SameOut hi B d b):One lo hi B le u d:=
 ⟨(e.1 u).trans h.at',by rw[e.2];exact h.lohi,fun k m h1 h2=>h.on k m h1 ((e.1 m).symm.trans h2),fun m h1=>h.low m ((e.1 m).symm.trans h1),fun k h1=>by rw[e.2];exact h.high k h1⟩
include L in
theorem one_in {u u' d:Nat}(h:One lo hi B le u d)(k:One lo hi B le u' d):SameIn lo B u u':=
 ⟨fun q=>bool_same (fun e=>h.on q u' e k.at') (fun e=>k.on q u e h.at'),L.anti _ _ (h.low u' k.at') (k.low u h.at')⟩
include L in
theorem one_out {u d d':Nat}(h:One lo hi B le u d)(k:One lo hi B le u d'):SameOut hi B d d':=
 ⟨fun q=>bool_same (fun e=>h.on d' q k.at' e) (fun e=>k.on d q h.at' e),L.anti _ _ (k.high d h.at') (h.high d' k.at')⟩
structure Fit (n:Nat)(s lo hi:Nat→Nat)(B:Nat→Nat→Bool)(le:Nat→Nat→Prop)(m:Nat)(inn out:Nat→Option Nat)(fx:Nat→Bool)(num:Nat→Nat):Prop where
 ends: ∀i j,i < n→j < n→s i≠0→s j≠1→le (hi i) (lo j)→B i j=true
 fix: ∀i,i < n→fx i=true→(s i=0∧ ∀k,k < n→B k i=true→le (hi k) (lo i))∨(s i=1∧ ∀k,k < n→B i k=true→le (hi i) (lo k))∨(s i=2∧hi i=lo i)
 numM: ∀i,i < n→fx i=false→num i < m
 innM: ∀i,i < n→fx i=false→s i≠1→ ∃u,inn (num i)=some u∧SameIn lo B i u
 outM: ∀i,i < n→fx i=false→s i≠0→ ∃d,out (num i)=some d∧SameOut hi B i d
 spI: ∀x u,x < m→inn x=some u→u < n∧s u≠1
 spO: ∀x d,x < m→out x=some d→d < n∧s d≠0
def nlow (inn:Nat→Option Nat)(lo:Nat→Nat)(bot x:Nat):Nat:=match inn x with
 |some u=>lo u
 |none=>bot
def least (fx:Nat→Bool)(num:Nat→Nat)(inn:Nat→Option Nat)(s lo hi:Nat→Nat)(bot i:Nat):Nat:=if fx i=true then(if s i=1 then hi i else lo i) else nlow inn lo bot (num i)
variable {n:Nat} {fx:Nat→Bool} {num:Nat→Nat} (F:Fit n s lo hi B le m inn out fx num)
include F in
theorem least_low {bot i:Nat}(h:i < n)(hs:s i≠1):least fx num inn s lo hi bot i=lo i:=by
 unfold least
 cases e:fx i with
 |true=>rw[if_pos rfl,if_neg hs]
 |false=>
  obtain⟨u,h1,h2⟩:=F.innM i h e hs
  rw[if_neg (by decide),nlow,h1]
  exact h2.2.symm
def greatest (fx:Nat→Bool)(num:Nat→Nat)(out:Nat→Option Nat)(s lo hi:Nat→Nat)(top i:Nat):Nat:=if fx i=true then(if s i=1 then hi i else lo i) else nlow out hi top (num i)
include F in
theorem greatest_high {top i:Nat}(h:i < n)(hs:s i≠0):greatest fx num out s lo hi top i=hi i:=by
 unfold greatest
 cases e:fx i with
 |true=>
  rw[if_pos rfl]
  rcases F.fix i h e with⟨a,-⟩|⟨a,-⟩|⟨a,b⟩
  ·exact absurd a hs
  ·rw[if_pos a]
  ·rw[if_neg (by omega),b]
 |false=>
  obtain⟨d,h1,h2⟩:=F.outM i h e hs
  rw[if_neg (by decide),nlow,h1]
  exact h2.2.symm
include L V F in
theorem spot_iff {i j:Nat}(hi':i < n)(hj:j < n)(si:s i≠0)(sj:s j≠1):
  B i j=true↔(fx i=false∧fx j=false∧Reach (Cov m inn out hi lo B le) (num i) (num j))∨le (hi i) (lo j):=by
 have he: ∀x y d u,x < m→y < m→out x=some d→inn y=some u→le (hi d) (lo u)→B d u=true:=fun x y d u hx hy hd hu h=>F.ends d u (F.spO x d hx hd).1 (F.spI y u hy hu).1 (F.spO x d hx hd).2 (F.spI y u hy hu).2 h
 constructor
 ·intro h
  cases ei:fx i with
  |true=>
   right
   rcases F.fix i hi' ei with⟨a,-⟩|⟨-,b⟩|⟨-,b⟩
   ·exact absurd a si
   ·exact b j hj h
   ·rw[b];exact L.low i j h
  |false=>
   cases ej:fx j with
   |true=>
    right
    rcases F.fix j hj ej with⟨-,b⟩|⟨a,-⟩|⟨-,b⟩
    ·exact b i hi' h
    ·exact absurd a sj
    ·rw[← b];exact L.high i j h
   |false=>
    obtain⟨d,d1,d2⟩:=F.outM i hi' ei si
    obtain⟨u,u1,u2⟩:=F.innM j hj ej sj
    have hdu:B d u=true:=(u2.1 d).symm.trans ((d2.1 j).symm.trans h)
    rcases(below_iff L V he (F.numM i hi' ei) (F.numM j hj ej) d1 u1).1 hdu with r|r
    ·exact .inl ⟨rfl,rfl,r⟩
    ·right
     rw[d2.2,u2.2]
     exact r
 ·rintro(⟨ei,ej,r⟩|r)
  ·obtain⟨d,d1,d2⟩:=F.outM i hi' ei si
   obtain⟨u,u1,u2⟩:=F.innM j hj ej sj
   have hdu:=(below_iff L V he (F.numM i hi' ei) (F.numM j hj ej) d1 u1).2 (.inl r)
   exact(d2.1 j).trans ((u2.1 d).trans hdu)
  ·exact F.ends i j hi' hj si sj r
theorem pigeon: ∀(q m:Nat) (f:Nat→Nat),(∀x,x < m→f x < q)→(∀x y,x < m→y < m→f x=f y→x=y)→m≤q
 |_,0,_,_,_=>Nat.zero_le _
 |0,m+1,f,h,_=>absurd (h 0 (by omega)) (by omega)
 |q+1,m+1,f,h,hi=>by
  have:=pigeon q m (fun x=>if f x=q then f m else f x) (fun x hx=>by
   have h1:=h x (by omega)
   have h2:=h m (by omega)
   show(if f x=q then f m else f x) < q
   split
   ·rename_i e
    have:f m≠q:=fun e'=>by
     have:=hi x m (by omega) (by omega) (e.trans e'.symm)
     omega
    omega
   ·omega) (fun x y hx hy e=>by
   have e:(if f x=q then f m else f x)=(if f y=q then f m else f y):=e
   split at e
   ·rename_i e1
    split at e
    ·rename_i e2
     exact hi x y (by omega) (by omega) (e1.trans e2.symm)
    ·have:=hi m y (by omega) (by omega) e
     omega
   ·split at e
    ·have:=hi x m (by omega) (by omega) e
     omega
    ·exact hi x y (by omega) (by omega) e)
  omega
structure Full (n:Nat)(s lo hi:Nat→Nat)(B:Nat→Nat→Bool)(le:Nat→Nat→Prop)(m:Nat)(inn out:Nat→Option Nat)(q:Nat)(v:Nat→Nat):Prop where
 apartI: ∀x y u u',x < m→y < m→inn x=some u→inn y=some u'→SameIn lo B u u'→x=y
 full: ∀x y u d,x < m→y < m→inn x=some u→out x=none→inn y=none→out y=some d→ ¬One lo hi B le u d
 any: ∀x,x < m→inn x=none→ ∃d,out x=some d
 fitI: ∀x u,x < m→inn x=some u→v u < q
 fitO: ∀x d,x < m→out x=some d→v d < q
 sameI: ∀x y u u',x < m→y < m→inn x=some u→inn y=some u'→v u=v u'→SameIn lo B u u'
 sameO: ∀x y d d',x < m→y < m→out x=some d→out y=some d'→v d=v d'→SameOut hi B d d'
 one: ∀x y u d,x < m→y < m→inn x=some u→out y=some d→v u=v d→One lo hi B le u d
def wv (inn out:Nat→Option Nat)(v:Nat→Nat)(x:Nat):Nat:=match inn x with
 |some u=>v u
 |none=>match out x with
  |some d=>v d
  |none=>0
include L V in
theorem no_more {q:Nat}{v:Nat→Nat}(H:Full n s lo hi B le m inn out q v):m≤q:=by
 have cross: ∀x y u d,x < m→y < m→inn x=some u→inn y=none→out y=some d→v u=v d→x=y:=fun x y u d hx hy h1 h2 h3 e=>by
  have ho:=H.one x y u d hx hy h1 h3 e
  cases e':out x with
  |some d'=>
   have hs:=one_out L (V.one x u d' hx h1 e') ho
   exact V.apart x y d' d hx hy e' h3 hs.1 hs.2
  |none=>exact absurd ho (H.full x y u d hx hy h1 e' h2 h3)
 refine pigeon q m (wv inn out v) (fun x hx=> ?_) fun x y hx hy e=> ?_
 ·unfold wv
  cases e:inn x with
  |some u=>exact H.fitI x u hx e
  |none=>
   obtain⟨d,e2⟩:=H.any x hx e
   rw[e2]
   exact H.fitO x d hx e2
 ·unfold wv at e
  cases ex:inn x with
  |some u=>
   rw[ex] at e
   cases ey:inn y with
   |some u'=>
    rw[ey] at e
    exact H.apartI x y u u' hx hy ex ey (H.sameI x y u u' hx hy ex ey e)
   |none=>
    rw[ey] at e
    obtain⟨d,e2⟩:=H.any y hy ey
    rw[e2] at e
    exact cross x y u d hx hy ex ey e2 e
  |none=>
   rw[ex] at e
   obtain⟨d,e2⟩:=H.any x hx ex
   rw[e2] at e
   cases ey:inn y with
   |some u'=>
    rw[ey] at e
    exact(cross y x u' d hy hx ey ex e2 e.symm).symm
   |none=>
    rw[ey] at e
    obtain⟨d',e3⟩:=H.any y hy ey
    rw[e3] at e
    have hs:=H.sameO x y d d' hx hy e2 e3 e
    exact V.apart x y d d' hx hy e2 e3 hs.1 hs.2
end
end Go.Proofs.YtmejhedegmjboaaGreat.PaM
namespace Go.Proofs.YtmejhedegmjboaaGreat.PaC
open PaM
section
variable {c:Cfg} {lo hi:Nat→Nat} {B:Nat→Nat→Bool} {le:Nat→Nat→Prop}
theorem SameIn.rfl' {i:Nat}:SameIn lo B i i:=⟨fun _=>rfl,rfl⟩
theorem SameIn.symm {i j:Nat}(h:SameIn lo B i j):SameIn lo B j i:=⟨fun k=>(h.1 k).symm,h.2.symm⟩
theorem SameIn.trans {i j k:Nat}(h:SameIn lo B i j)(g:SameIn lo B j k):SameIn lo B i k:=⟨fun q=>(h.1 q).trans (g.1 q),h.2.trans g.2⟩
theorem SameOut.rfl' {i:Nat}:SameOut hi B i i:=⟨fun _=>rfl,rfl⟩
theorem SameOut.symm {i j:Nat}(h:SameOut hi B i j):SameOut hi B j i:=⟨fun k=>(h.1 k).symm,h.2.symm⟩
theorem SameOut.trans {i j k:Nat}(h:SameOut hi B i j)(g:SameOut hi B j k):SameOut hi B i k:=⟨fun q=>(h.1 q).trans (g.1 q),h.2.trans g.2⟩
structure Mean (c:Cfg)(lo hi:Nat→Nat)(B:Nat→Nat→Bool)(le:Nat→Nat→Prop):Prop where
 so: ∀i j,i < c.n→j < c.n→(c.so i j=true↔SameOut hi B i j)
 si: ∀i j,i < c.n→j < c.n→(c.si i j=true↔SameIn lo B i j)
 fit: ∀d u,d < c.n→u < c.n→(c.fit d u=true↔One lo hi B le u d)
structure Goes (c:Cfg)(lo hi:Nat→Nat)(B:Nat→Nat→Bool)(le:Nat→Nat→Prop):Prop where
 bU: ∀i j,i < c.n→j < c.n→c.sd i=2→c.sd j=2→SameOut hi B i j→SameIn lo B i j→B i i=true→c.first i=c.first j
 self: ∀i,i < c.n→c.sd i=2→B i i=true
 lohi: ∀i,i < c.n→c.sd i=2→le (lo i) (hi i)
variable (O:c.Ok) (M:Mean c lo hi B le) (G:Goes c lo hi B le) (L:Laws c.sd lo hi B le)
theorem downs_sd {d:Nat}(h:d∈c.downs):c.sd d=1:=(mem_cls.1 (mem_downs.1 h).1).2.2.2
theorem ups_sd {d:Nat}(h:d∈c.ups):c.sd d=0:=(mem_cls.1 (mem_ups.1 h).1).2.2.2
theorem both_sd {d:Nat}(h:d∈c.cls 2):c.sd d=2:=(mem_cls.1 h).2.2.2
include O M in
theorem in_same {x y:Nat}(hx:Cls c x)(hy:Cls c y)(sx:c.sd x≠1)(sy:c.sd y≠1)(h:c.one x=c.one y):SameIn lo B x y:=by
 cases one_is O hx with
 |self e _ _=>
  cases one_is O hy with
  |self e' _ _=>rw[e,e'] at h;rw[h];exact SameIn.rfl'
  |out _ _ k _ _ _=>exact absurd k sy
  |inn b e' k hb hs _=>
   rw[e,e'] at h
   subst h
   exact SameIn.symm ((M.si _ _ hy.1 hx.1).1 hs)
  |pair d e' k hb _ _ _=>rw[e,e'] at h;subst h;exact absurd (downs_sd hb) sx
 |out _ _ k _ _ _=>exact absurd k sx
 |inn b e k hb hs _=>
  have hbn:=(mem_cls.1 hb).1
  cases one_is O hy with
  |self e' _ _=>
   rw[e,e'] at h
   subst h
   exact(M.si _ _ hx.1 hy.1).1 hs
  |out _ _ k _ _ _=>exact absurd k sy
  |inn b' e' k hb' hs' _=>
   rw[e,e'] at h
   subst h
   exact SameIn.trans ((M.si _ _ hx.1 hbn).1 hs) (SameIn.symm ((M.si _ _ hy.1 hbn).1 hs'))
  |pair d e' k hb' _ _ _=>rw[e,e'] at h;subst h;have:=downs_sd hb';have:=both_sd hb;omega
 |pair d e k hb _ _ _=>
  cases one_is O hy with
  |self e' _ _=>rw[e,e'] at h;subst h;exact absurd (downs_sd hb) sy
  |out _ _ k _ _ _=>exact absurd k sy
  |inn b e' k hb' _ _=>rw[e,e'] at h;subst h;have:=downs_sd hb;have:=both_sd hb';omega
  |pair d' e' k' hb' _ _ _=>
   have:=one_inj O hx hy (k.trans k'.symm) h
   rw[this]
   exact SameIn.rfl'
include O M in
theorem out_same {x y:Nat}(hx:Cls c x)(hy:Cls c y)(sx:c.sd x≠0)(sy:c.sd y≠0)(h:c.one x=c.one y):SameOut hi B x y:=by
 cases one_is O hx with
 |self e _ _=>
  cases one_is O hy with
  |self e' _ _=>rw[e,e'] at h;rw[h];exact SameOut.rfl'
  |inn _ _ k _ _ _=>exact absurd k sy
  |out b e' k hb hs _=>
   rw[e,e'] at h
   subst h
   exact SameOut.symm ((M.so _ _ hy.1 hx.1).1 hs)
  |pair _ _ k _ _ _ _=>exact absurd k sy
 |inn _ _ k _ _ _=>exact absurd k sx
 |out b e k hb hs _=>
  have hbn:=(mem_cls.1 hb).1
  cases one_is O hy with
  |self e' _ _=>
   rw[e,e'] at h
   subst h
   exact(M.so _ _ hx.1 hy.1).1 hs
  |inn _ _ k _ _ _=>exact absurd k sy
  |out b' e' k hb' hs' _=>
   rw[e,e'] at h
   subst h
   exact SameOut.trans ((M.so _ _ hx.1 hbn).1 hs) (SameOut.symm ((M.so _ _ hy.1 hbn).1 hs'))
  |pair _ _ k _ _ _ _=>exact absurd k sy
 |pair _ _ k _ _ _ _=>exact absurd k sx
include O M in
theorem spot_in {i:Nat}(h:i < c.n)(hs:c.sd i≠1):SameIn lo B i (c.first i):=(M.si _ _ h (Nat.lt_of_le_of_lt (O.le i) h)).1 (O.siF i h hs)
include O M in
theorem spot_out {i:Nat}(h:i < c.n)(hs:c.sd i≠0):SameOut hi B i (c.first i):=(M.so _ _ h (Nat.lt_of_le_of_lt (O.le i) h)).1 (O.soF i h hs)
include O M in
theorem spots_in {i j:Nat}(h:i < c.n)(g:j < c.n)(hf:c.fx i=false)(gf:c.fx j=false)(hs:c.sd i≠1)(gs:c.sd j≠1)(e:c.home i=c.home j):SameIn lo B i j:=
 SameIn.trans (spot_in O M h hs) (SameIn.trans (in_same O M (.first O h hf) (.first O g gf) (by rw[O.sdf i h];exact hs) (by rw[O.sdf j g];exact gs) e) (SameIn.symm (spot_in O M g gs)))
include O M in
theorem spots_out {i j:Nat}(h:i < c.n)(g:j < c.n)(hf:c.fx i=false)(gf:c.fx j=false)(hs:c.sd i≠0)(gs:c.sd j≠0)(e:c.home i=c.home j):SameOut hi B i j:=
 SameOut.trans (spot_out O M h hs) (SameOut.trans (out_same O M (.first O h hf) (.first O g gf) (by rw[O.sdf i h];exact hs) (by rw[O.sdf j g];exact gs) e) (SameOut.symm (spot_out O M g gs)))
theorem One.cong {u d u' d':Nat}(h:One lo hi B le u d)(e:SameIn lo B u' u)(e':SameOut hi B d' d):One lo hi B le u' d':=one_outs (one_inn h e) e'
include O M G L in
theorem cls_one {x y:Nat}(hx:Cls c x)(hy:Cls c y)(sx:c.sd x≠1)(sy:c.sd y≠0)(h:c.one x=c.one y):One lo hi B le x y:=by
 have hb: ∀{b},b∈c.cls 2→One lo hi B le b b:=fun {b} k=>PaM.one_both L (G.self b (mem_cls.1 k).1 (both_sd k)) (G.lohi b (mem_cls.1 k).1 (both_sd k))
 cases one_is O hx with
 |self e _ hu=>
  cases one_is O hy with
  |self e' _ _=>
   rw[e,e'] at h
   subst h
   have:=O.sd2 x hx.1
   have k:=hx.mem
   rw[show c.sd x=2 by omega] at k
   exact hb k
  |inn _ _ k _ _ _=>exact absurd k sy
  |out b e' k hb' hs _=>
   rw[e,e'] at h
   subst h
   exact one_outs (hb hb') ((M.so _ _ hy.1 hx.1).1 hs)
  |pair _ _ k _ _ _ _=>exact absurd k sy
 |out _ _ k _ _ _=>exact absurd k sx
 |inn b e k hb' hs _=>
  have hbn:=(mem_cls.1 hb').1
  have h1:=one_inn (hb hb') ((M.si _ _ hx.1 hbn).1 hs)
  cases one_is O hy with
  |self e' _ _=>
   rw[e,e'] at h
   subst h
   exact h1
  |inn _ _ k _ _ _=>exact absurd k sy
  |out b' e' k hb'' hs' _=>
   rw[e,e'] at h
   subst h
   exact one_outs h1 ((M.so _ _ hy.1 hbn).1 hs')
  |pair _ _ k _ _ _ _=>exact absurd k sy
 |pair d e k hb' _ _ hf=>
  cases one_is O hy with
  |self e' _ _=>
   rw[e,e'] at h
   subst h
   exact(M.fit _ _ hy.1 hx.1).1 hf
  |inn _ _ k _ _ _=>exact absurd k sy
  |out b' e' k hb'' hs' _=>rw[e,e'] at h;subst h;have:=downs_sd hb';have:=both_sd hb'';omega
  |pair _ _ k _ _ _ _=>exact absurd k sy
include G L in
theorem both_out {a b:Nat}(ha:a∈c.cls 2)(hb:b∈c.cls 2)(h:SameOut hi B a b):a=b:=by
 have an:=mem_cls.1 ha
 have bn:=mem_cls.1 hb
 have o1:=PaM.one_both L (G.self a an.1 an.2.2.2) (G.lohi a an.1 an.2.2.2)
 have o2:=PaM.one_both L (G.self b bn.1 bn.2.2.2) (G.lohi b bn.1 bn.2.2.2)
 have:=G.bU a b an.1 bn.1 an.2.2.2 bn.2.2.2 h (one_in L o1 (one_outs o2 h)) (G.self a an.1 an.2.2.2)
 rw[an.2.1,bn.2.1] at this
 exact this
include G L in
theorem both_in {a b:Nat}(ha:a∈c.cls 2)(hb:b∈c.cls 2)(h:SameIn lo B a b):a=b:=by
 have an:=mem_cls.1 ha
 have bn:=mem_cls.1 hb
 have o1:=PaM.one_both L (G.self a an.1 an.2.2.2) (G.lohi a an.1 an.2.2.2)
 have o2:=PaM.one_both L (G.self b bn.1 bn.2.2.2) (G.lohi b bn.1 bn.2.2.2)
 have:=G.bU a b an.1 bn.1 an.2.2.2 bn.2.2.2 (one_out L o1 (one_inn o2 h)) h (G.self a an.1 an.2.2.2)
 rw[an.2.1,bn.2.1] at this
 exact this
theorem mg_has {f:Nat→Nat→Bool}{x b:Nat}(hb:b∈c.cls 2)(h:f x b=true): ∃b',c.mg f x=some b':=by
 cases e:c.mg f x with
 |some b'=>exact⟨b',rfl⟩
 |none=>exact absurd h (List.find?_eq_none.1 e b hb)
include O M G L in
theorem out_one {x y:Nat}(hx:Cls c x)(hy:Cls c y)(sx:c.sd x≠0)(sy:c.sd y≠0)(h:SameOut hi B x y):c.one x=c.one y:=by
 have hx2:=O.sd2 x hx.1
 have hy2:=O.sd2 y hy.1
 have key: ∀{x y:Nat},Cls c x→y∈c.cls 2→c.sd x=1→SameOut hi B x y→c.one x=c.one y:=fun {x y} hx hy sx h=>by
  have hyn:=(mem_cls.1 hy).1
  obtain⟨b,hb⟩:=mg_has hy ((M.so _ _ hx.1 hyn).2 h)
  have hxm:=hx.mem
  rw[sx] at hxm
  rcases one_down hxm with⟨b',h1,h2⟩|⟨h1,-⟩
  ·have h3:=mg_some h1
   rw[h2,PaC.one_both hy]
   exact both_out G L h3.1 hy (SameOut.trans (SameOut.symm ((M.so _ _ hx.1 (mem_cls.1 h3.1).1).1 h3.2)) h)
  ·rw[(mem_downs.1 h1).2] at hb
   cases hb
 by_cases e1:c.sd x=1
 ·by_cases e2:c.sd y=1
  ·have:=O.soU x y hx.1 hy.1 e1 e2 ((M.so _ _ hx.1 hy.1).2 h)
   rw[hx.2.1,hy.2.1] at this
   rw[this]
  ·have k:=hy.mem
   rw[show c.sd y=2 by omega] at k
   exact key hx k e1 h
 ·have k:=hx.mem
  rw[show c.sd x=2 by omega] at k
  by_cases e2:c.sd y=1
  ·exact(key hy k e2 (SameOut.symm h)).symm
  ·have k':=hy.mem
   rw[show c.sd y=2 by omega] at k'
   rw[both_out G L k k' h]
include O M G L in
theorem in_one {x y:Nat}(hx:Cls c x)(hy:Cls c y)(sx:c.sd x≠1)(sy:c.sd y≠1)(h:SameIn lo B x y):c.one x=c.one y:=by
 have hx2:=O.sd2 x hx.1
 have hy2:=O.sd2 y hy.1
 have key: ∀{x y:Nat},Cls c x→y∈c.cls 2→c.sd x=0→SameIn lo B x y→c.one x=c.one y:=fun {x y} hx hy sx h=>by
  have hyn:=(mem_cls.1 hy).1
  obtain⟨b,hb⟩:=mg_has hy ((M.si _ _ hx.1 hyn).2 h)
  have hxm:=hx.mem
  rw[sx] at hxm
  rcases one_up hxm with⟨b',h1,h2⟩|⟨d,h1,-,-⟩|⟨h1,-,-⟩
  ·have h3:=mg_some h1
   rw[h2,PaC.one_both hy]
   exact both_in G L h3.1 hy (SameIn.trans (SameIn.symm ((M.si _ _ hx.1 (mem_cls.1 h3.1).1).1 h3.2)) h)
  ·rw[(mem_ups.1 ((pairs_ok c).ups d x h1).1).2] at hb
   cases hb
  ·rw[(mem_ups.1 h1).2] at hb
   cases hb
 by_cases e1:c.sd x=0
 ·by_cases e2:c.sd y=0
  ·have:=O.siU x y hx.1 hy.1 e1 e2 ((M.si _ _ hx.1 hy.1).2 h)
   rw[hx.2.1,hy.2.1] at this
   rw[this]
  ·have k:=hy.mem
   rw[show c.sd y=2 by omega] at k
   exact key hx k e1 h
 ·have k:=hx.mem
  rw[show c.sd x=2 by omega] at k
  by_cases e2:c.sd y=0
  ·exact(key hy k e2 (SameIn.symm h)).symm
  ·have k':=hy.mem
   rw[show c.sd y=2 by omega] at k'
   rw[both_in G L k k' h]
theorem inn_is {x u:Nat}(h:c.inn x=some u):u < c.n∧c.fx u=false∧c.sd u≠1∧c.num u=x:=seat_some h
theorem out_is {x u:Nat}(h:c.out x=some u):u < c.n∧c.fx u=false∧c.sd u≠0∧c.num u=x:=seat_some h
include O M G L in
theorem spot_one {i j:Nat}(h:i < c.n)(g:j < c.n)(hf:c.fx i=false)(gf:c.fx j=false)(hs:c.sd i≠1)(gs:c.sd j≠0)(e:c.home i=c.home j):One lo hi B le i j:=
 One.cong (cls_one O M G L (.first O h hf) (.first O g gf) (by rw[O.sdf i h];exact hs) (by rw[O.sdf j g];exact gs) e) (spot_in O M h hs) (spot_out O M g gs)
include O M G L in
theorem spot_out_one {i j:Nat}(h:i < c.n)(g:j < c.n)(hf:c.fx i=false)(gf:c.fx j=false)(hs:c.sd i≠0)(gs:c.sd j≠0)(e:SameOut hi B i j):c.home i=c.home j:=
 out_one O M G L (.first O h hf) (.first O g gf) (by rw[O.sdf i h];exact hs) (by rw[O.sdf j g];exact gs) (SameOut.trans (SameOut.symm (spot_out O M h hs)) (SameOut.trans e (spot_out O M g gs)))
include O M G L in
theorem spot_in_one {i j:Nat}(h:i < c.n)(g:j < c.n)(hf:c.fx i=false)(gf:c.fx j=false)(hs:c.sd i≠1)(gs:c.sd j≠1)(e:SameIn lo B i j):c.home i=c.home j:=
 in_one O M G L (.first O h hf) (.first O g gf) (by rw[O.sdf i h];exact hs) (by rw[O.sdf j g];exact gs) (SameIn.trans (SameIn.symm (spot_in O M h hs)) (SameIn.trans e (spot_in O M g gs)))
include O M G L in
theorem vars_ok:Vars c.vars c.inn c.out lo hi B le:=by
 refine⟨fun x u d _ h1 h2=> ?_,fun x y d d' _ _ h1 h2 h3 h4=> ?_⟩
 ·obtain⟨a1,a2,a3,a4⟩:=inn_is h1
  obtain⟨b1,b2,b3,b4⟩:=out_is h2
  exact spot_one O M G L a1 b1 a2 b2 a3 b3 ((num_same a2 b2).1 (a4.trans b4.symm))
 ·obtain⟨a1,a2,a3,a4⟩:=out_is h1
  obtain⟨b1,b2,b3,b4⟩:=out_is h2
  rw[← a4, ← b4]
  exact(num_same a2 b2).2 (spot_out_one O M G L a1 b1 a2 b2 a3 b3 ⟨h3,h4⟩)
include O M G L in
theorem full_ok {q:Nat}{v:Nat→Nat}
  (fit: ∀i,i < c.n→c.fx i=false→v i < q)
  (sI: ∀i j,i < c.n→j < c.n→c.fx i=false→c.fx j=false→c.sd i≠1→c.sd j≠1→v i=v j→SameIn lo B i j)
  (sO: ∀i j,i < c.n→j < c.n→c.fx i=false→c.fx j=false→c.sd i≠0→c.sd j≠0→v i=v j→SameOut hi B i j)
  (sX: ∀i j,i < c.n→j < c.n→c.fx i=false→c.fx j=false→c.sd i≠1→c.sd j≠0→v i=v j→One lo hi B le i j):
  Full c.n c.sd lo hi B le c.vars c.inn c.out q v:=by
 refine⟨fun x y u u' _ _ h1 h2 h3=> ?_,fun x y u d _ _ h1 h2 h3 h4 h5=> ?_,fun x hx h=> ?_,fun x u _ h=> ?_,fun x u _ h=> ?_,fun x y u u' _ _ h1 h2 h3=> ?_,fun x y u u' _ _ h1 h2 h3=> ?_,fun x y u u' _ _ h1 h2 h3=> ?_⟩
 ·obtain⟨a1,a2,a3,a4⟩:=inn_is h1
  obtain⟨b1,b2,b3,b4⟩:=inn_is h2
  rw[← a4, ← b4]
  exact(num_same a2 b2).2 (spot_in_one O M G L a1 b1 a2 b2 a3 b3 h3)
 ·obtain⟨a1,a2,a3,a4⟩:=inn_is h1
  obtain⟨b1,b2,b3,b4⟩:=out_is h4
  have cu:=Cls.first O a1 a2
  have cd:=Cls.first O b1 b2
  have noX: ∀i,i < c.n→c.fx i=false→c.home i=c.home u→c.sd i=0:=fun i g gf e=>seat_none h2 g gf (((num_same gf a2).2 e).trans a4)
  have noY: ∀i,i < c.n→c.fx i=false→c.home i=c.home d→c.sd i=1:=fun i g gf e=>seat_none h3 g gf (((num_same gf b2).2 e).trans b4)
  have hom: ∀{i},Cls c i→c.home i=c.one i:=fun {i} k=>by unfold Cfg.home;rw[k.2.1]
  have su:=noX u a1 a2 rfl
  have sd':=noY d b1 b2 rfl
  have hof:c.fit (c.first d) (c.first u)=true:=(M.fit _ _ cd.1 cu.1).2 (One.cong h5 (SameIn.symm (spot_in O M a1 a3)) (SameOut.symm (spot_out O M b1 b3)))
  cases one_is O cu with
  |out b e k hb _ _=>rw[O.sdf u a1,su] at k;omega
  |inn b e k hb _ _=>
   have hbn:=Cls.of hb
   have:=noX b hbn.1 hbn.2.2 (by rw[hom hbn,PaC.one_both hb];exact e.symm)
   have:=both_sd hb
   omega
  |pair d' e k hb _ _ _=>
   have hbn:=Cls.of (mem_downs.1 hb).1
   have:=noX d' hbn.1 hbn.2.2 (by
    rw[hom hbn]
    rcases one_down (mem_downs.1 hb).1 with⟨b,h6,-⟩|⟨-,h6⟩
    ·rw[(mem_downs.1 hb).2] at h6;cases h6
    ·rw[h6];exact e.symm)
   have:=downs_sd hb
   omega
  |self e _ hu=>
   obtain⟨hu1,hu2⟩:=hu (by rw[O.sdf u a1];exact su)
   cases one_is O cd with
   |out b e k hb _ _=>
    have hbn:=Cls.of hb
    have:=noY b hbn.1 hbn.2.2 (by rw[hom hbn,PaC.one_both hb];exact e.symm)
    have:=both_sd hb
    omega
   |inn b e k hb _ _=>rw[O.sdf d b1,sd'] at k;omega
   |pair _ _ k _ _ _ _=>rw[O.sdf d b1,sd'] at k;omega
   |self e' hd _=>
    have hd1:=hd (by rw[O.sdf d b1];exact sd')
    rw[← (pairs_ok c).fst] at hd1
    obtain⟨⟨d0,o⟩,hp,he⟩:=List.mem_map.1 hd1
    have he:d0=c.first d:=he
    subst he
    cases o with
    |none=>
     have:=(pairs_ok c).full _ hp _ hu1 hof
     rw[hu2] at this
     cases this
    |some u'=>
     have h6:=((pairs_ok c).ups _ _ hp).1
     have hun:=Cls.of (mem_ups.1 h6).1
     have:=noY u' hun.1 hun.2.2 (by
      rw[hom hun]
      show c.oneM c.pairs u'=_
      rw[oneM_some (pairs_ok c) hp]
      exact e'.symm)
     have:=ups_sd h6
     omega
 ·obtain⟨i,h1,h2,h3,-⟩:=num_all hx
  by_cases e:c.sd i=0
  ·obtain⟨k,hk⟩:=seat_has (but:=1) h1 h2 (by omega) h3
   have h:c.seat 1 x c.n=none:=h
   rw[h] at hk
   cases hk
  ·exact seat_has h1 h2 e h3
 ·obtain⟨a1,a2,a3,a4⟩:=inn_is h
  exact fit u a1 a2
 ·obtain⟨a1,a2,a3,a4⟩:=out_is h
  exact fit u a1 a2
 ·obtain⟨a1,a2,a3,a4⟩:=inn_is h1
  obtain⟨b1,b2,b3,b4⟩:=inn_is h2
  exact sI _ _ a1 b1 a2 b2 a3 b3 h3
 ·obtain⟨a1,a2,a3,a4⟩:=out_is h1
  obtain⟨b1,b2,b3,b4⟩:=out_is h2
  exact sO _ _ a1 b1 a2 b2 a3 b3 h3
 ·obtain⟨a1,a2,a3,a4⟩:=inn_is h1
  obtain⟨b1,b2,b3,b4⟩:=out_is h2
  exact sX _ _ a1 b1 a2 b2 a3 b3 h3
include O M in
theorem fit_ok (ends: ∀i j,i < c.n→j < c.n→c.sd i≠0→c.sd j≠1→le (hi i) (lo j)→B i j=true)
  (fix: ∀i,i < c.n→c.fx i=true→(c.sd i=0∧ ∀k,k < c.n→B k i=true→le (hi k) (lo i))∨(c.sd i=1∧ ∀k,k < c.n→B i k=true→le (hi i) (lo k))∨(c.sd i=2∧hi i=lo i)):
  Fit c.n c.sd lo hi B le c.vars c.inn c.out c.fx c.num:=by
 refine⟨ends,fix,fun i h hf=>num_lt hf h,fun i h hf hs=> ?_,fun i h hf hs=> ?_,fun x u _ h=>⟨(inn_is h).1,(inn_is h).2.2.1⟩,fun x u _ h=>⟨(out_is h).1,(out_is h).2.2.1⟩⟩
 ·obtain⟨u,hu⟩:=seat_has (but:=1) h hf hs rfl
  have hu:c.inn (c.num i)=some u:=hu
  obtain⟨a1,a2,a3,a4⟩:=inn_is hu
  exact⟨u,hu,spots_in O M h a1 hf a2 hs a3 ((num_same hf a2).1 a4.symm)⟩
 ·obtain⟨u,hu⟩:=seat_has (but:=0) h hf hs rfl
  have hu:c.out (c.num i)=some u:=hu
  obtain⟨a1,a2,a3,a4⟩:=out_is hu
  exact⟨u,hu,spots_out O M h a1 hf a2 hs a3 ((num_same hf a2).1 a4.symm)⟩
end
end Go.Proofs.YtmejhedegmjboaaGreat.PaC
