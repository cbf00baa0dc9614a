import Derived.Test.YtmejhedegmjboaaGreatEfEff
import Derived.Test.YtmejhedegmjboaaGreatRange
set_option maxRecDepth 100000
set_option maxHeartbeats 2000000
namespace Go.Proofs.YtmejhedegmjboaaGreat.PaC
structure Cfg where
 n:Nat
 first:Nat→Nat
 fx:Nat→Bool
 sd:Nat→Nat
 so:Nat→Nat→Bool
 si:Nat→Nat→Bool
 fit:Nat→Nat→Bool
namespace Cfg
variable (c:Cfg)
def is (s i:Nat):Bool:=decide (c.first i=i) && (!c.fx i && decide (c.sd i=s))
def cls (s:Nat):List Nat:=(List.range c.n).filter (c.is s)
def mg (f:Nat→Nat→Bool)(x:Nat):Option Nat:=(c.cls 2).find? (f x)
def oth (s:Nat)(f:Nat→Nat→Bool):List Nat:=(c.cls s).filter fun x=>(c.mg f x).isNone
def downs:List Nat:=c.oth 1 c.so
def ups:List Nat:=c.oth 0 c.si
def one1 (x:Nat):Nat:=if c.is 1 x=true then(c.mg c.so x).getD x else if c.is 0 x=true then(c.mg c.si x).getD x else x
abbrev Ps:=List (Nat×Option Nat)
def taken (s:Ps)(u:Nat):Bool:=s.any fun p=>decide (p.2=some u)
def seek (s:Ps)(d:Nat):Option Nat:=c.ups.find? fun u=> !taken s u && c.fit d u
def QY (s:Ps)(d:Nat):Ps:=s++ [(d,c.seek s d)]
def pairs:Ps:=c.downs.foldl c.QY []
def oneM (s:Ps)(x:Nat):Nat:=((s.find? fun p=>decide (p.2=some x)).map (·.1)).getD (c.one1 x)
def one:Nat→Nat:=c.oneM c.pairs
def home (i:Nat):Nat:=c.one (c.first i)
def lead (i:Nat):Bool:= !c.fx i && (List.range i).all fun k=>c.fx k|| !decide (c.home k=c.home i)
def cnt (i:Nat):Nat:=((List.range i).filter c.lead).length
def key (i:Nat):Nat:=((List.range i).find? fun k=> !c.fx k && decide (c.home k=c.home i)).getD i
def num (i:Nat):Nat:=c.cnt (c.key i)
def vars:Nat:=c.cnt c.n
def seat (but v:Nat):Nat→Option Nat
 |0=>none
 |j+1=>if (!c.fx j && (!decide (c.sd j=but) && decide (c.num j=v)))=true then some j else seat but v j
def inn (v:Nat):Option Nat:=c.seat 1 v c.n
def out (v:Nat):Option Nat:=c.seat 0 v c.n
end Cfg
structure Cfg.Ok (c:Cfg):Prop where
 le: ∀i,c.first i≤i
 idem: ∀i,c.first (c.first i)=c.first i
 fxf: ∀i,i < c.n→c.fx (c.first i)=c.fx i
 sdf: ∀i,i < c.n→c.sd (c.first i)=c.sd i
 soS: ∀i j,c.so i j=true→c.so j i=true
 siS: ∀i j,c.si i j=true→c.si j i=true
 soT: ∀i j k,c.so i j=true→c.so j k=true→c.so i k=true
 siT: ∀i j k,c.si i j=true→c.si j k=true→c.si i k=true
 soU: ∀i j,i < c.n→j < c.n→c.sd i=1→c.sd j=1→c.so i j=true→c.first i=c.first j
 siU: ∀i j,i < c.n→j < c.n→c.sd i=0→c.sd j=0→c.si i j=true→c.first i=c.first j
 soF: ∀i,i < c.n→c.sd i≠0→c.so i (c.first i)=true
 siF: ∀i,i < c.n→c.sd i≠1→c.si i (c.first i)=true
 sd2: ∀i,i < c.n→c.sd i≤2
section
variable {c:Cfg}
theorem Zt {s i:Nat}:i∈c.cls s↔i < c.n∧c.first i=i∧c.fx i=false∧c.sd i=s:=by
 unfold Cfg.cls Cfg.is
 simp
theorem UK {s i:Nat}:c.is s i=true↔c.first i=i∧c.fx i=false∧c.sd i=s:=by
 unfold Cfg.is
 simp
theorem Yv (s:Nat):(c.cls s).Nodup:=List.nodup_range.filter _
theorem UL {f:Nat→Nat→Bool}{x b:Nat}(h:c.mg f x=some b):b∈c.cls 2∧f x b=true:=⟨List.mem_of_find?_eq_some h,List.find?_some h⟩
theorem Zgp {s:Nat}{f:Nat→Nat→Bool}{x:Nat}:x∈c.oth s f↔x∈c.cls s∧c.mg f x=none:=by
 unfold Cfg.oth
 simp
theorem ZO {x:Nat}:x∈c.downs↔x∈c.cls 1∧c.mg c.so x=none:=Zgp
theorem ZW {x:Nat}:x∈c.ups↔x∈c.cls 0∧c.mg c.si x=none:=Zgp
theorem Ui:c.downs.Nodup:=(Yv 1).filter _
theorem Zgq:c.ups.Nodup:=(Yv 0).filter _
structure PsOk (c:Cfg)(l:List Nat)(s:Cfg.Ps):Prop where
 fst:s.map (·.1)=l
 ups: ∀d u,(d,some u)∈s→u∈c.ups∧c.fit d u=true
 inj: ∀d d' u,(d,some u)∈s→(d',some u)∈s→d=d'
 full: ∀d,(d,none)∈s→ ∀u∈c.ups,c.fit d u=true→Cfg.taken s u=true
theorem ZY {s:Cfg.Ps}{u:Nat}:Cfg.taken s u=true↔ ∃d,(d,some u)∈s:=by
 unfold Cfg.taken
 rw[List.any_eq_true]
 constructor
 ·rintro⟨⟨d,o⟩,h1,h2⟩
  have h2:o=some u:=of_decide_eq_true h2
  subst h2
  exact⟨d,h1⟩
 ·rintro⟨d,h⟩
  exact⟨_,h,by simp⟩
theorem PsOk.zero:PsOk c [] []:=⟨rfl,(fun _ _ h=>by simp at h),(fun _ _ _ h=>by simp at h),fun _ h=>by simp at h⟩
theorem PsOk.next {l:List Nat}{s:Cfg.Ps}(h:PsOk c l s)(d:Nat):PsOk c (l++ [d]) (c.QY s d):=by
 unfold Cfg.QY
 have hs: ∀u,c.seek s d=some u→u∈c.ups∧Cfg.taken s u=false∧c.fit d u=true:=fun u e=>by(
 have h1:=List.find?_some e
 have h2:=List.mem_of_find?_eq_some e
 simp only[Bool.and_eq_true,Bool.not_eq_true'] at h1
 exact⟨h2,h1⟩)
 refine⟨by simp[h.fst],fun d' u hm=> ?_,fun d1 d2 u h1 h2=> ?_,fun d' hm u hu hf=> ?_⟩
 ·(
 rcases List.mem_append.1 hm with hm|hm
 ·exact h.ups d' u hm
 ·simp only[List.mem_singleton,Prod.mk.injEq] at hm
  obtain⟨rfl,e⟩:=hm
  have:=hs u e.symm
  exact⟨this.1,this.2.2⟩)
 ·have key: ∀d',(d',some u)∈s→c.seek s d=some u→False:=fun d' a b=>by
   have h3:=(hs u b).2.1
   have h4:=ZY.2 ⟨d',a⟩
   rw[h3] at h4
   cases h4
  rcases List.mem_append.1 h1 with h1|h1 <;> rcases List.mem_append.1 h2 with h2|h2
  ·exact h.inj d1 d2 u h1 h2
  ·simp only[List.mem_singleton,Prod.mk.injEq] at h2
   exact(key d1 h1 h2.2.symm).elim
  ·simp only[List.mem_singleton,Prod.mk.injEq] at h1
   exact(key d2 h2 h1.2.symm).elim
  ·simp only[List.mem_singleton,Prod.mk.injEq] at h1 h2
   rw[h1.1,h2.1]
 ·(
 rw[ZY]
 rcases List.mem_append.1 hm with hm|hm
 ·obtain⟨d2,h2⟩:=ZY.1 (h.full d' hm u hu hf)
  exact⟨d2,List.mem_append_left _ h2⟩
 ·(
 simp only[List.mem_singleton,Prod.mk.injEq] at hm
 obtain⟨rfl,e⟩:=hm
 have h3:=List.find?_eq_none.1 e.symm u hu
 simp only[hf,Bool.and_true,Bool.not_eq_true',Bool.not_eq_false] at h3
 obtain⟨d2,h2⟩:=ZY.1 h3
 exact⟨d2,List.mem_append_left _ h2⟩))
theorem PsOk.all: ∀(r:List Nat) {l:List Nat} {s:Cfg.Ps},PsOk c l s→PsOk c (l++r) (r.foldl c.QY s)
 | [],l,s,h=>by simpa using h
 |d::r,l,s,h=>by(
 have:=PsOk.all r (h.next d)
 rw[List.append_assoc] at this
 exact this)
theorem ZF (c:Cfg):PsOk c c.downs c.pairs:=by
 have:=PsOk.all (c:=c) c.downs PsOk.zero
 rwa [List.nil_append] at this
theorem QA {s:Cfg.Ps}{l:List Nat}(h:PsOk c l s){d u:Nat}(hm:(d,some u)∈s):c.oneM s u=d:=by
 unfold Cfg.oneM
 cases e:s.find? fun p=>decide (p.2=some u) with
 |none=>
  have:=List.find?_eq_none.1 e _ hm
  simp at this
 |some p=>(
 obtain⟨d',o⟩:=p
 have h1:=List.find?_some e
 have h2:=List.mem_of_find?_eq_some e
 have h1:o=some u:=of_decide_eq_true h1
 subst h1
 exact h.inj d' d u h2 hm)
theorem V6 {s:Cfg.Ps}{x:Nat}(h:Cfg.taken s x=false):c.oneM s x=c.one1 x:=by
 unfold Cfg.oneM
 cases e:s.find? fun p=>decide (p.2=some x) with
 |none=>rfl
 |some p=>(
 obtain⟨d',o⟩:=p
 have h1:=List.find?_some e
 have h2:=List.mem_of_find?_eq_some e
 have h1:o=some x:=of_decide_eq_true h1
 subst h1
 have:=ZY.2 ⟨d',h2⟩
 rw[h] at this
 cases this)
theorem Zit {s:Cfg.Ps}{d u:Nat}(h:Cfg.taken s u=false):c.oneM (s++ [(d,some u)])=fun x=>if x=u then d else c.oneM s x:=by
 funext x
 unfold Cfg.oneM
 rw[List.find?_append]
 by_cases e:x=u
 ·(
 subst e
 rw[if_pos rfl]
 have:(s.find? fun p=>decide (p.2=some x))=none:=by(
 rw[List.find?_eq_none]
 rintro⟨d',o⟩ hp ho
 have ho:o=some x:=of_decide_eq_true ho
 subst ho
 have:=ZY.2 ⟨d',hp⟩
 rw[h] at this
 cases this)
 rw[this]
 simp)
 ·(
 rw[if_neg e]
 have:([(d,some u)]:Cfg.Ps).find? (fun p=>decide (p.2=some x))=none:=by(
 rw[List.find?_eq_none]
 intro p hp
 simp only[List.mem_singleton] at hp
 subst hp
 simp[Ne.symm e])
 rw[this,Option.or_none])
theorem Zgr {s:Cfg.Ps}{d:Nat}:c.oneM (s++ [(d,none)])=c.oneM s:=by
 funext x
 unfold Cfg.oneM
 rw[List.find?_append]
 simp
theorem Zgs {x:Nat}(h:x∈c.cls 2):c.one1 x=x:=by
 obtain⟨-,-,-,h⟩:=Zt.1 h
 unfold Cfg.one1
 rw[if_neg (fun e=>by have:=(UK.1 e).2.2;omega),if_neg (fun e=>by have:=(UK.1 e).2.2;omega)]
theorem Zgt {x:Nat}(h:x∈c.cls 1):c.one1 x=(c.mg c.so x).getD x:=by
 obtain⟨-,h1,h2,h3⟩:=Zt.1 h
 unfold Cfg.one1
 rw[if_pos (UK.2 ⟨h1,h2,h3⟩)]
theorem Zce {x:Nat}(h:x∈c.cls 0):c.one1 x=(c.mg c.si x).getD x:=by
 obtain⟨-,h1,h2,h3⟩:=Zt.1 h
 unfold Cfg.one1
 rw[if_neg (fun e=>by have:=(UK.1 e).2.2;omega),if_pos (UK.2 ⟨h1,h2,h3⟩)]
theorem QB {s:Cfg.Ps}{l:List Nat}(h:PsOk c l s){x:Nat}(hx:x∉c.ups):Cfg.taken s x=false:=by
 cases e:Cfg.taken s x with
 |false=>rfl
 |true=>
  obtain⟨d,hd⟩:=ZY.1 e
  exact absurd (h.ups d x hd).1 hx
theorem ZZ {x s t:Nat}(h:x∈c.cls s)(ht:s≠t):x∉c.cls t:=fun k=>ht ((Zt.1 h).2.2.2.symm.trans (Zt.1 k).2.2.2)
theorem Uj {x:Nat}(h:x∈c.cls 2):c.one x=x:=by
 unfold Cfg.one
 rw[V6 (QB (ZF c) fun k=>ZZ h (by decide) (ZW.1 k).1),Zgs h]
theorem VN {x:Nat}(h:x∈c.cls 1):(∃b,c.mg c.so x=some b∧c.one x=b)∨(x∈c.downs∧c.one x=x):=by
 unfold Cfg.one
 rw[V6 (QB (ZF c) fun k=>ZZ h (by decide) (ZW.1 k).1),Zgt h]
 cases e:c.mg c.so x with
 |some b=>exact .inl ⟨b,rfl,rfl⟩
 |none=>exact .inr ⟨ZO.2 ⟨h,e⟩,rfl⟩
theorem QC {x:Nat}(h:x∈c.cls 0):(∃b,c.mg c.si x=some b∧c.one x=b)∨(∃d,(d,some x)∈c.pairs∧d∈c.downs∧c.one x=d)∨(x∈c.ups∧Cfg.taken c.pairs x=false∧c.one x=x):=by
 cases e:c.mg c.si x with
 |some b=>(
 refine .inl ⟨b,rfl,?_⟩
 unfold Cfg.one
 rw[V6 (QB (ZF c) fun k=>by rw[(ZW.1 k).2] at e;cases e),Zce h,e]
 rfl)
 |none=>(
 right
 have hu:=ZW.2 ⟨h,e⟩
 cases t:Cfg.taken c.pairs x with
 |true=>(
 obtain⟨d,hd⟩:=ZY.1 t
 refine .inl ⟨d,hd,?_,QA (ZF c) hd⟩
 have:=(ZF c).fst
 rw[← this]
 exact List.mem_map.2 ⟨_,hd,rfl⟩)
 |false=>(
 refine .inr ⟨hu,rfl,?_⟩
 unfold Cfg.one
 rw[V6 t,Zce h,e]
 rfl))
def Cls (c:Cfg)(x:Nat):Prop:=x < c.n∧c.first x=x∧c.fx x=false
theorem Cls.of {s x:Nat}(h:x∈c.cls s):Cls c x:=⟨(Zt.1 h).1,(Zt.1 h).2.1,(Zt.1 h).2.2.1⟩
theorem Cls.mem {x:Nat}(h:Cls c x):x∈c.cls (c.sd x):=Zt.2 ⟨h.1,h.2.1,h.2.2,rfl⟩
theorem Cls.first (O:c.Ok){i:Nat}(h:i < c.n)(hf:c.fx i=false):Cls c (c.first i):=⟨Nat.lt_of_le_of_lt (O.le i) h,O.idem i,(O.fxf i h).trans hf⟩
inductive Znc (c:Cfg) (x:Nat):Prop
 |self (h:c.one x=x) (hd:c.sd x=1→x∈c.downs) (hu:c.sd x=0→x∈c.ups∧Cfg.taken c.pairs x=false)
 |out (b:Nat) (h:c.one x=b) (hx:c.sd x=1) (hb:b∈c.cls 2) (hs:c.so x b=true) (hm:c.mg c.so x=some b)
 |inn (b:Nat) (h:c.one x=b) (hx:c.sd x=0) (hb:b∈c.cls 2) (hs:c.si x b=true) (hm:c.mg c.si x=some b)
 |pair (d:Nat) (h:c.one x=d) (hx:c.sd x=0) (hb:d∈c.downs) (hu:x∈c.ups) (hp:(d,some x)∈c.pairs) (hf:c.fit d x=true)
theorem V7 (O:c.Ok){x:Nat}(h:Cls c x):Znc c x:=by
 have hm:=h.mem
 have h2:=O.sd2 x h.1
 by_cases e0:c.sd x=0
 ·(
 rw[e0] at hm
 rcases QC hm with⟨b,h3,h4⟩|⟨d,h3,h4,h5⟩|⟨h3,h4,h5⟩
 ·exact .inn b h4 e0 (UL h3).1 (UL h3).2 h3
 ·exact .pair d h5 e0 h4 ((ZF c).ups d x h3).1 h3 ((ZF c).ups d x h3).2
 ·exact .self h5 (fun e=>by omega) fun _=>⟨h3,h4⟩)
 ·(
 by_cases e1:c.sd x=1
 ·rw[e1] at hm
  rcases VN hm with⟨b,h3,h4⟩|⟨h3,h4⟩
  ·exact .out b h4 e1 (UL h3).1 (UL h3).2 h3
  ·exact .self h4 (fun _=>h3) fun e=>by omega
 ·have e2:c.sd x=2:=by omega
  rw[e2] at hm
  exact .self (Uj hm) (fun e=>by omega) fun e=>by omega)
theorem Zgu (O:c.Ok){x:Nat}(h:Cls c x):Cls c (c.one x)∧c.one (c.one x)=c.one x:=by
 cases V7 O h with
 |self e _ _=>rw[e];exact⟨h,e⟩
 |out b e _ hb _ _=>rw[e];exact⟨.of hb,Uj hb⟩
 |inn b e _ hb _ _=>rw[e];exact⟨.of hb,Uj hb⟩
 |pair d e _ hb _ _ _=>(
 rw[e]
 have hd:=ZO.1 hb
 refine⟨.of hd.1,?_⟩
 rcases VN hd.1 with⟨b,h3,-⟩|⟨-,h4⟩
 ·rw[hd.2] at h3;cases h3
 ·exact h4)
theorem Zcf (O:c.Ok){x y:Nat}(hx:Cls c x)(hy:Cls c y)(hs:c.sd x=c.sd y)(h:c.one x=c.one y):x=y:=by
 have b2: ∀{b},b∈c.cls 2→c.sd b=2:=fun h=>(Zt.1 h).2.2.2
 have b1: ∀{b},b∈c.downs→c.sd b=1:=fun h=>(Zt.1 (ZO.1 h).1).2.2.2
 have b0: ∀{b},b∈c.ups→c.sd b=0:=fun h=>(Zt.1 (ZW.1 h).1).2.2.2
 cases V7 O hx with
 |self e _ _=>(
 cases V7 O hy with
 |self e' _ _=>rw[e,e'] at h;exact h
 |out b e' k hb _ _=>rw[e,e'] at h;have:=b2 hb;rw[← h] at this;omega
 |inn b e' k hb _ _=>rw[e,e'] at h;have:=b2 hb;rw[← h] at this;omega
 |pair b e' k hb _ _ _=>rw[e,e'] at h;have:=b1 hb;rw[← h] at this;omega)
 |out b e k hb hso _=>(
 cases V7 O hy with
 |self e' _ _=>rw[e,e'] at h;have:=b2 hb;rw[h] at this;omega
 |out b' e' k' hb' hso' _=>(
 rw[e,e'] at h
 subst h
 have:=O.soU x y hx.1 hy.1 k k' (O.soT _ _ _ hso (O.soS _ _ hso'))
 rwa [hx.2.1,hy.2.1] at this)
 |inn b' e' k' hb' _ _=>omega
 |pair b' e' k' hb' _ _ _=>omega)
 |inn b e k hb hso _=>(
 cases V7 O hy with
 |self e' _ _=>rw[e,e'] at h;have:=b2 hb;rw[h] at this;omega
 |out b' e' k' hb' hso' _=>omega
 |inn b' e' k' hb' hso' _=>(
 rw[e,e'] at h
 subst h
 have:=O.siU x y hx.1 hy.1 k k' (O.siT _ _ _ hso (O.siS _ _ hso'))
 rwa [hx.2.1,hy.2.1] at this)
 |pair b' e' k' hb' _ _ _=>rw[e,e'] at h;have:=b1 hb';rw[← h,b2 hb] at this;omega)
 |pair d e k hb _ hp _=>(
 cases V7 O hy with
 |self e' _ _=>rw[e,e'] at h;have:=b1 hb;rw[h] at this;omega
 |out b' e' k' hb' hso' _=>omega
 |inn b' e' k' hb' hso' _=>rw[e,e'] at h;have:=b1 hb;rw[h,b2 hb'] at this;omega
 |pair d' e' k' hb' _ hp' _=>(
 rw[e,e'] at h
 subst h
 have hn:c.pairs.Nodup:=by(
 have:=Ui (c:=c)
 rw[← (ZF c).fst] at this
 exact(List.pairwise_map.1 this).imp fun {a b} hab e=>hab (congrArg (·.1) e))
 have hn1:=Ui (c:=c)
 rw[← (ZF c).fst] at hn1
 have key: ∀(s:Cfg.Ps),(s.map (·.1)).Nodup→ ∀p q,p∈s→q∈s→p.1=q.1→p=q:=by(
 intro s
 induction s with
 |nil=>intro _ p q hp;simp at hp
 |cons a s ih=>(
 intro hn p q hp hq e
 rw[List.map_cons,List.nodup_cons] at hn
 rcases List.mem_cons.1 hp with e1|h1
 ·rcases List.mem_cons.1 hq with e2|h2
  ·rw[e1,e2]
  ·exact(hn.1 (List.mem_map.2 ⟨q,h2,by rw[← e1];exact e.symm⟩)).elim
 ·rcases List.mem_cons.1 hq with e2|h2
  ·exact(hn.1 (List.mem_map.2 ⟨p,h1,by rw[← e2];exact e⟩)).elim
  ·exact ih hn.2 p q h1 h2 e))
 have:=key _ hn1 _ _ hp hp' rfl
 simpa using this))
theorem Zdi (O:c.Ok){i:Nat}(h:i < c.n)(hf:c.fx i=false):Cls c (c.home i):=(Zgu O (.first O h hf)).1
theorem QD {i:Nat}(hf:c.fx i=false):c.key i≤i∧c.fx (c.key i)=false∧c.home (c.key i)=c.home i∧ ∀k < c.key i,c.fx k=false→c.home k≠c.home i:=by
 unfold Cfg.key
 cases e:(List.range i).find? fun k=> !c.fx k && decide (c.home k=c.home i) with
 |none=>(
 refine⟨Nat.le_refl _,hf,rfl,fun k hk h1 h2=> ?_⟩
 have:=List.find?_eq_none.1 e k (List.mem_range.2 hk)
 simp[h1,h2] at this)
 |some v=>(
 have h1:=List.find?_some e
 simp only[Bool.and_eq_true,Bool.not_eq_true',decide_eq_true_eq] at h1
 obtain⟨-,pa,pb,h2,h3⟩:=List.find?_eq_some_iff_append.1 e
 have hv:v < i:=List.mem_range.1 (by rw[h2];simp)
 refine⟨Nat.le_of_lt hv,h1.1,h1.2,fun k hk g1 g2=> ?_⟩
 replace hk:k < v:=hk
 have hlen:pa.length=v:=by(
 have e1:(List.range i)[pa.length]?=some v:=by rw[h2];simp
 have hlt:=(List.getElem?_eq_some_iff.1 e1).1
 rw[List.length_range] at hlt
 rw[List.getElem?_range hlt] at e1
 exact Option.some.inj e1)
 have hka:k∈pa:=by(
 have e1:(List.range i)[k]?=pa[k]?:=by rw[h2,List.getElem?_append_left (by omega)]
 rw[List.getElem?_range (by omega)] at e1
 exact List.mem_of_getElem? e1.symm)
 have:=h3 k hka
 simp[g1,g2] at this)
theorem Ziu {i k:Nat}(hf:c.fx i=false)(_:k≤i)(h2:c.fx k=false)(h3:c.home k=c.home i)(h4: ∀j < k,c.fx j=false→c.home j≠c.home i):c.key i=k:=by
 obtain⟨g1,g2,g3,g4⟩:=QD (c:=c) hf
 rcases Nat.lt_trichotomy (c.key i) k with e|e|e
 ·exact absurd g3 (h4 _ e g2)
 ·exact e
 ·exact absurd h3 (g4 _ e h2)
theorem Ziv {i j:Nat}(hi:c.fx i=false)(hj:c.fx j=false)(h:c.home i=c.home j):c.key i=c.key j:=by
 obtain⟨g1,g2,g3,g4⟩:=QD (c:=c) hi
 obtain⟨k1,k2,k3,k4⟩:=QD (c:=c) hj
 rcases Nat.lt_trichotomy (c.key i) (c.key j) with e|e|e
 ·exact absurd (g3.trans h) (k4 _ e g2)
 ·exact e
 ·exact absurd (k3.trans h.symm) (g4 _ e k2)
theorem ZU {i:Nat}:c.lead i=true↔c.fx i=false∧ ∀k < i,c.fx k=false→c.home k≠c.home i:=by
 unfold Cfg.lead
 simp only[Bool.and_eq_true,Bool.not_eq_true',List.all_eq_true,List.mem_range,Bool.or_eq_true,decide_eq_false_iff_not]
 refine and_congr Iff.rfl ⟨fun h k hk hf=> ?_,fun h k hk=> ?_⟩
 ·rcases h k hk with e|e
  ·rw[hf] at e;cases e
  ·exact e
 ·cases e:c.fx k with
  |true=>exact .inl rfl
  |false=>exact .inr (h k hk e)
theorem Zaw {i:Nat}(hf:c.fx i=false):c.lead (c.key i)=true:=by
 obtain⟨g1,g2,g3,g4⟩:=QD (c:=c) hf
 exact ZU.2 ⟨g2,fun k hk h1=>by rw[g3];exact g4 k hk h1⟩
theorem Ziw {i:Nat}(h:c.lead i=true):c.key i=i:=Ziu (ZU.1 h).1 lR (ZU.1 h).1 rfl (ZU.1 h).2
theorem UV (i:Nat):c.cnt (i+1)=c.cnt i+if c.lead i=true then 1 else 0:=by
 unfold Cfg.cnt
 rw[List.range_succ,List.filter_append,List.length_append]
 congr 1
 cases e:c.lead i <;> simp[e]
theorem cnt_mono {i j:Nat}(h:i≤j):c.cnt i≤c.cnt j:=by
 induction h with
 |refl=>exact Nat.le_refl _
 |step _ ih=>rw[UV];omega
theorem cnt_lt {i j:Nat}(h:i < j)(hl:c.lead i=true):c.cnt i < c.cnt j:=by
 have:=cnt_mono (c:=c) (show i+1≤j from h)
 rw[UV,if_pos hl] at this
 omega
theorem Zjm {i j:Nat}(hf:c.fx i=false)(h:i < j):c.num i < c.cnt j:=cnt_lt (Nat.lt_of_le_of_lt (QD hf).1 h) (Zaw hf)
theorem VO {i j:Nat}(hi:c.fx i=false)(hj:c.fx j=false):c.num i=c.num j↔c.home i=c.home j:=by
 constructor
 ·(
 intro h
 have:c.key i=c.key j:=by(
 rcases Nat.lt_trichotomy (c.key i) (c.key j) with e|e|e
 ·have:=cnt_lt e (Zaw hi);unfold Cfg.num at h;omega
 ·exact e
 ·have:=cnt_lt e (Zaw hj);unfold Cfg.num at h;omega)
 rw[← (QD (c:=c) hi).2.2.1, ← (QD (c:=c) hj).2.2.1,this])
 ·intro h
  unfold Cfg.num
  rw[Ziv hi hj h]
theorem Zcg {i:Nat}(h:c.lead i=true):c.num i=c.cnt i:=by unfold Cfg.num;rw[Ziw h]
theorem Zgv: ∀{j v:Nat},v < c.cnt j→ ∃i < j,c.fx i=false∧c.num i=v∧c.lead i=true
 |0,v,h=>by simp[Cfg.cnt] at h
 |j+1,v,h=>by(
 rw[UV] at h
 by_cases e:v < c.cnt j
 ·obtain⟨i,h1,h2⟩:=Zgv e
  exact⟨i,by omega,h2⟩
 ·cases hl:c.lead j with
  |false=>rw[hl] at h;simp at h;omega
  |true=>(
 rw[hl] at h
 simp at h
 exact⟨j,by omega,(ZU.1 hl).1,by rw[Zcg hl];omega,hl⟩))
theorem VI {but v:Nat}: ∀{j i:Nat},c.seat but v j=some i→i < j∧c.fx i=false∧c.sd i≠but∧c.num i=v
 |0,i,h=>by cases h
 |j+1,i,h=>by(
 unfold Cfg.seat at h
 split at h
 ·(
 rename_i e
 have h:=Option.some.inj h
 subst h
 simp only[Bool.and_eq_true,Bool.not_eq_true',decide_eq_false_iff_not,decide_eq_true_eq] at e
 exact⟨Nat.lt_succ_self _,e⟩)
 ·have:=VI h
  exact⟨by omega,this.2⟩)
theorem Zax {but v:Nat}: ∀{j i:Nat},i < j→c.fx i=false→c.sd i≠but→c.num i=v→ ∃k,c.seat but v j=some k
 |0,i,h,_,_,_=>by omega
 |j+1,i,h,h1,h2,h3=>by(
 unfold Cfg.seat
 split
 ·exact⟨j,rfl⟩
 ·(
 rename_i e
 by_cases e1:i=j
 ·subst e1
  rw[h1,h3] at e
  simp[h2] at e
 ·exact Zax (by omega) h1 h2 h3))
end
end Go.Proofs.YtmejhedegmjboaaGreat.PaC
namespace Go.Proofs.YtmejhedegmjboaaGreat.PaC
structure Vn where
 u:Int
 d:Int
 b:Int
deriving DecidableEq
def optZ (o:Option Nat):Int:=match o with
 |some u=>(u:Int)
 |none=> -1
def minZ (a x:Int):Int:=if 0≤x∧(a < 0∨x < a) then x else a
def Vn.first (x:Vn):Int:=minZ (minZ (minZ (-1) x.u) x.d) x.b
def Vn.inZ (x:Vn):Int:=if 0≤x.u then x.u else x.b
def Vn.outZ (x:Vn):Int:=if 0≤x.d then x.d else x.b
namespace Cfg
variable (c:Cfg)
def Zak (f:Nat→Nat→Bool)(P:List Nat)(b:Nat):Int:=P.foldl (fun a u=>if c.mg f u=some b then(u:Int) else a) (-1)
def vnB (P Q:List Nat):List Vn:=(c.cls 2).map fun b=>⟨c.Zak c.si P b,c.Zak c.so Q b,(b:Int)⟩
def vnD (s:Ps):List Vn:=s.map fun p=>⟨optZ p.2,(p.1:Int),-1⟩
def vnU (l:List Nat):List Vn:=l.map fun (u:Nat)=>⟨(u:Int),-1,-1⟩
def left (s:Ps):List Nat:=c.ups.filter fun u=> !taken s u
def vns:List Vn:=c.vnB (c.cls 0) (c.cls 1)++vnD c.pairs++vnU (c.left c.pairs)
def vnsI (l:List Vn)(j:Nat):List Vn:=(List.range j).flatMap fun (i:Nat)=>l.filter fun x=>decide (x.first=(i:Int))
def sorted:List Vn:=vnsI c.vns c.n
def leads:List Nat:=(List.range c.n).filter c.lead
def at' (s:Nat)(h:Nat):Int:=optZ ((c.cls s).find? fun x=>decide (c.one x=h))
def vnOf (h:Nat):Vn:=⟨c.at' 0 h,c.at' 1 h,c.at' 2 h⟩
def homes:List Nat:=c.cls 2++c.pairs.map (·.1)++c.left c.pairs
end Cfg
section
variable {c:Cfg}
theorem Vz {f:Nat→Nat→Bool}{P:List Nat}{i b:Nat}:c.Zak f (P++ [i]) b=if c.mg f i=some b then(i:Int) else c.Zak f P b:=by
 unfold Cfg.Zak
 rw[List.foldl_append]
 rfl
theorem Z8 (P Q:List Nat):(c.vnB P Q).length=(c.cls 2).length:=by simp[Cfg.vnB]
theorem U5 {P Q:List Nat}{k:Nat}(h:k < (c.cls 2).length):(c.vnB P Q)[k]'(by rw[Z8];exact h)=⟨c.Zak c.si P (c.cls 2)[k],c.Zak c.so Q (c.cls 2)[k],((c.cls 2)[k]:Int)⟩:=by simp[Cfg.vnB]
theorem ZmX {f:Nat→Nat→Bool}{x k:Nat}(h:k < (c.cls 2).length)(hk:f x (c.cls 2)[k]=true)(hl: ∀j (g:j < k),f x ((c.cls 2)[j]'(by omega))=false):c.mg f x=some (c.cls 2)[k]:=by
 unfold Cfg.mg
 rw[List.find?_eq_some_iff_append]
 refine⟨hk,(c.cls 2).take k,(c.cls 2).drop (k+1),?_,fun a ha=> ?_⟩
 ·rw[List.getElem_cons_drop,List.take_append_drop]
 ·obtain⟨j,hj,rfl⟩:=List.mem_iff_getElem.1 ha
  rw[List.length_take] at hj
  rw[List.getElem_take,hl j (by omega)]
  rfl
theorem ZmY {f:Nat→Nat→Bool}{x:Nat}(hl: ∀j (g:j < (c.cls 2).length),f x (c.cls 2)[j]=false):c.mg f x=none:=by
 unfold Cfg.mg
 rw[List.find?_eq_none]
 intro a ha
 obtain⟨j,hj,rfl⟩:=List.mem_iff_getElem.1 ha
 rw[hl j hj]
 simp
theorem Zbk {l:List Nat}(h:l.Nodup){j k:Nat}(hj:j < l.length)(hk:k < l.length)(e:l[j]=l[k]):j=k:=by
 have:=List.pairwise_iff_getElem.1 h
 rcases Nat.lt_trichotomy j k with a|a|a
 ·exact absurd e (this j k hj hk a)
 ·exact a
 ·exact absurd e.symm (this k j hk hj a)
theorem Zi9 {s j k:Nat}(hj:j < (c.cls s).length)(hk:k < (c.cls s).length)(h:(c.cls s)[j]=(c.cls s)[k]):j=k:=Zbk (Yv s) hj hk h
theorem ZlT {P Q:List Nat}{i k:Nat}(h:k < (c.cls 2).length)(hm:c.mg c.si i=some (c.cls 2)[k]):(c.vnB P Q).set k {(c.vnB P Q)[k]'(by rw[Z8];exact h) with u:=(i:Int)}=c.vnB (P++ [i]) Q:=by
 apply List.ext_getElem (by simp[Z8])
 intro j h1 h2
 rw[Z8] at h2
 rw[List.getElem_set,U5 h2]
 split
 ·rename_i e
  subst e
  rw[U5 h,U5 h,Vz,if_pos hm]
 ·(
 rename_i e
 rw[U5 h2,Vz,if_neg]
 rw[hm]
 intro e'
 exact e (Zi9 h h2 (Option.some.inj e')))
theorem ZhW {P Q:List Nat}{i:Nat}(hm:c.mg c.si i=none):c.vnB (P++ [i]) Q=c.vnB P Q:=by
 unfold Cfg.vnB
 apply List.map_congr_left
 intro b _
 rw[Vz,hm,if_neg (by simp)]
theorem ZhX {P Q:List Nat}{i k:Nat}(h:k < (c.cls 2).length)(hm:c.mg c.so i=some (c.cls 2)[k]):(c.vnB P Q).set k {(c.vnB P Q)[k]'(by rw[Z8];exact h) with d:=(i:Int)}=c.vnB P (Q++ [i]):=by
 apply List.ext_getElem (by simp[Z8])
 intro j h1 h2
 rw[Z8] at h2
 rw[List.getElem_set,U5 h2]
 split
 ·rename_i e
  subst e
  rw[U5 h,U5 h,Vz,if_pos hm]
 ·(
 rename_i e
 rw[U5 h2,Vz,if_neg]
 rw[hm]
 intro e'
 exact e (Zi9 h h2 (Option.some.inj e')))
theorem ZfJ {P Q:List Nat}{i:Nat}(hm:c.mg c.so i=none):c.vnB P (Q++ [i])=c.vnB P Q:=by
 unfold Cfg.vnB
 apply List.map_congr_left
 intro b _
 rw[Vz,hm,if_neg (by simp)]
theorem Zbl {s:Cfg.Ps}{d:Nat}:c.seek s d=(c.left s).find? (c.fit d):=by
 unfold Cfg.seek Cfg.left
 rw[List.find?_filter]
 congr 1
 funext a
 cases Cfg.taken s a <;> cases c.fit d a <;> rfl
theorem Rx (s:Cfg.Ps):(c.left s).Nodup:=Zgq.filter _
theorem ZfK {s:Cfg.Ps}{d u x:Nat}:Cfg.taken (s++ [(d,some u)]) x=(Cfg.taken s x||decide (u=x)):=by
 unfold Cfg.taken
 rw[List.any_append]
 simp
theorem Zd8 {s:Cfg.Ps}{d x:Nat}:Cfg.taken (s++ [(d,none)]) x=Cfg.taken s x:=by
 unfold Cfg.taken
 rw[List.any_append]
 simp
theorem ZhY {s:Cfg.Ps}{d k:Nat}(h:k < (c.left s).length):c.left (s++ [(d,some (c.left s)[k])])=(c.left s).take k++(c.left s).drop (k+1):=by
 have hn:=Rx (c:=c) s
 have e1:c.left (s++ [(d,some (c.left s)[k])])=(c.left s).filter fun u=> !decide ((c.left s)[k]=u):=by(
 conv=>rhs;unfold Cfg.left
 rw[List.filter_filter]
 unfold Cfg.left
 apply List.filter_congr
 intro x _
 rw[ZfK]
 cases Cfg.taken s x <;> simp)
 rw[e1]
 generalize c.left s=l at*
 have e2:l=l.take k++l[k]::l.drop (k+1):=by rw[List.getElem_cons_drop,List.take_append_drop]
 have h2: ∀x∈l.take k,x≠l[k]:=fun x hx e=>by
  rw[e2,List.nodup_append] at hn
  exact hn.2.2 x hx l[k] (List.mem_cons_self ..) e
 have h3: ∀x∈l.drop (k+1),x≠l[k]:=fun x hx e=>by
  rw[e2,List.nodup_append,List.nodup_cons] at hn
  exact hn.2.1.1 (e▸hx)
 generalize l[k]=v at*
 rw[e2,List.filter_append,List.filter_cons_of_neg (by simp),List.filter_eq_self.2,List.filter_eq_self.2]
 ·rw[← e2]
 ·intro x hx
  have:=h3 x hx
  simp[Ne.symm this]
 ·intro x hx
  have:=h2 x hx
  simp[Ne.symm this]
theorem left_skip {s:Cfg.Ps}{d:Nat}:c.left (s++ [(d,none)])=c.left s:=by
 unfold Cfg.left
 apply List.filter_congr
 intro x _
 rw[Zd8]
theorem Zky {l:List Nat}{p:Nat→Bool}{k:Nat}(h:k < l.length)(hk:p l[k]=true)(hl: ∀j (g:j < k),p (l[j]'(by omega))=false):l.find? p=some l[k]:=by
 rw[List.find?_eq_some_iff_append]
 refine⟨hk,l.take k,l.drop (k+1),?_,fun a ha=> ?_⟩
 ·rw[List.getElem_cons_drop,List.take_append_drop]
 ·obtain⟨j,hj,rfl⟩:=List.mem_iff_getElem.1 ha
  rw[List.length_take] at hj
  rw[List.getElem_take,hl j (by omega)]
  rfl
theorem Zkz {l:List Nat}{p:Nat→Bool}(hl: ∀j (g:j < l.length),p l[j]=false):l.find? p=none:=by
 rw[List.find?_eq_none]
 intro a ha
 obtain⟨j,hj,rfl⟩:=List.mem_iff_getElem.1 ha
 rw[hl j hj]
 simp
theorem ZfL (s:Cfg.Ps)(d:Nat)(o:Option Nat):Cfg.vnD (s++ [(d,o)])=Cfg.vnD s++ [⟨optZ o,(d:Int),-1⟩]:=by simp[Cfg.vnD]
theorem Qm (l:List Vn)(j:Nat):Cfg.vnsI l (j+1)=Cfg.vnsI l j++l.filter fun x=>decide (x.first=(j:Int)):=by
 unfold Cfg.vnsI
 rw[List.range_succ,List.flatMap_append]
 simp
theorem UI {o:Option Nat}:0≤optZ o↔ ∃u,o=some u:=by
 cases o with
 |none=>simp[optZ]
 |some u=>simp[optZ]
theorem U8 {o:Option Nat}{x:Nat}:optZ o=(x:Int)↔o=some x:=by
 cases o with
 |none=>simp[optZ]
 |some u=>
  simp only[optZ,Option.some.injEq]
  omega
variable (O:c.Ok)
include O in
theorem Yo {s h x:Nat}:((c.cls s).find? fun y=>decide (c.one y=h))=some x↔x∈c.cls s∧c.one x=h:=by
 constructor
 ·intro e
  exact⟨List.mem_of_find?_eq_some e,of_decide_eq_true (List.find?_some (p:=fun y=>decide (c.one y=h)) e)⟩
 ·(
 rintro⟨h1,h2⟩
 cases e:(c.cls s).find? fun y=>decide (c.one y=h) with
 |none=>exact absurd (decide_eq_true h2) (List.find?_eq_none.1 e x h1)
 |some y=>(
 have h3:=List.mem_of_find?_eq_some e
 have h4:c.one y=h:=of_decide_eq_true (List.find?_some (p:=fun y=>decide (c.one y=h)) e)
 rw[Zcf O (.of h3) (.of h1) ((Zt.1 h3).2.2.2.trans (Zt.1 h1).2.2.2.symm) (h4.trans h2.symm)]))
theorem YP {f:Nat→Nat→Bool}{b:Nat}: ∀(P:List Nat) (a:Int),(∀u∈P,c.mg f u≠some b)→P.foldl (fun a u=>if c.mg f u=some b then(u:Int) else a) a=a
 | [],_,_=>rfl
 |u::P,a,h=>by
  rw[List.foldl_cons,if_neg (h u (List.mem_cons_self ..))]
  exact YP P a fun v hv=>h v (List.mem_cons_of_mem _ hv)
theorem Ry {f:Nat→Nat→Bool}{b x:Nat}: ∀(P:List Nat) (a:Int),x∈P→c.mg f x=some b→(∀u∈P,c.mg f u=some b→u=x)→P.foldl (fun a u=>if c.mg f u=some b then(u:Int) else a) a=(x:Int)
 | [],_,h,_,_=>by simp at h
 |u::P,a,h,hx,hu=>by(
 rw[List.foldl_cons]
 by_cases e:x∈P
 ·exact Ry P _ e hx fun v hv=>hu v (List.mem_cons_of_mem _ hv)
 ·have:x=u:=by
   rcases List.mem_cons.1 h with h|h
   ·exact h
   ·exact absurd h e
  subst this
  rw[if_pos hx]
  exact YP P _ fun v hv k=>e (hu v (List.mem_cons_of_mem _ hv) k▸hv))
theorem ZkA {x b:Nat}(hx:x∈c.cls 1)(hb:b∈c.cls 2):c.mg c.so x=some b↔c.one x=b:=by
 constructor
 ·intro h
  rcases VN hx with⟨b',h1,h2⟩|⟨h1,-⟩
  ·rw[h] at h1;rw[h2];exact(Option.some.inj h1).symm
  ·rw[(ZO.1 h1).2] at h;cases h
 ·(
 intro h
 rcases VN hx with⟨b',h1,h2⟩|⟨-,h2⟩
 ·rw[h1, ← h2,h]
 ·rw[h2] at h
  subst h
  exact absurd hb (ZZ hx (by decide)))
theorem ZmZ {x b:Nat}(hx:x∈c.cls 0)(hb:b∈c.cls 2):c.mg c.si x=some b↔c.one x=b:=by
 constructor
 ·(
 intro h
 rcases QC hx with⟨b',h1,h2⟩|⟨d,h1,-,-⟩|⟨h1,-,-⟩
 ·rw[h] at h1;rw[h2];exact(Option.some.inj h1).symm
 ·rw[(ZW.1 ((ZF c).ups d x h1).1).2] at h;cases h
 ·rw[(ZW.1 h1).2] at h;cases h)
 ·(
 intro h
 rcases QC hx with⟨b',h1,h2⟩|⟨d,-,h1,h2⟩|⟨-,-,h2⟩
 ·rw[h1, ← h2,h]
 ·have h3:=(ZO.1 h1).1
  rw[h2] at h
  subst h
  exact absurd hb (ZZ h3 (by decide))
 ·rw[h2] at h
  subst h
  exact absurd hb (ZZ hx (by decide)))
include O in
theorem last_at {f:Nat→Nat→Bool}{s b:Nat}(hm: ∀x∈c.cls s,(c.mg f x=some b↔c.one x=b)):c.Zak f (c.cls s) b=c.at' s b:=by
 unfold Cfg.Zak Cfg.at'
 cases e:(c.cls s).find? fun y=>decide (c.one y=b) with
 |none=>
  rw[YP _ _ fun u hu k=>absurd (decide_eq_true ((hm u hu).1 k)) (List.find?_eq_none.1 e u hu)]
  rfl
 |some x=>(
 have hx:=(Yo O).1 e
 rw[Ry (x:=x) _ _ hx.1 ((hm x hx.1).2 hx.2) fun u hu k=>Zcf O (.of hu) (.of hx.1) ((Zt.1 hu).2.2.2.trans (Zt.1 hx.1).2.2.2.symm) (((hm u hu).1 k).trans hx.2.symm)]
 rfl)
include O in
theorem Zb1 {s h x:Nat}(hx:x∈c.cls s)(e:c.one x=h):c.at' s h=(x:Int):=by
 unfold Cfg.at'
 rw[(Yo O).2 ⟨hx,e⟩]
 rfl
theorem Zb2 {s h:Nat}(hn: ∀x∈c.cls s,c.one x≠h):c.at' s h= -1:=by
 unfold Cfg.at'
 have:((c.cls s).find? fun y=>decide (c.one y=h))=none:=by(
 rw[List.find?_eq_none]
 intro x hx e
 exact hn x hx (of_decide_eq_true e))
 rw[this]
 rfl
include O in
theorem ZlU:c.vns=c.homes.map c.vnOf:=by
 unfold Cfg.vns Cfg.homes
 rw[List.map_append,List.map_append]
 congr 1
 ·(
 congr 1
 ·(
 unfold Cfg.vnB
 apply List.map_congr_left
 intro b hb
 rw[last_at O fun x hx=>ZmZ hx hb,last_at O fun x hx=>ZkA hx hb]
 unfold Cfg.vnOf
 rw[Zb1 O hb (Uj hb)])
 ·(
 unfold Cfg.vnD
 rw[List.map_map]
 apply List.map_congr_left
 rintro⟨d,o⟩ hp
 show(⟨optZ o,(d:Int),-1⟩:Vn)=c.vnOf d
 have hd:d∈c.downs:=by rw[← (ZF c).fst];exact List.mem_map.2 ⟨_,hp,rfl⟩
 have hd1:=(ZO.1 hd).1
 have hself:c.one d=d:=by(
 rcases VN hd1 with⟨b,h6,-⟩|⟨-,h6⟩
 ·rw[(ZO.1 hd).2] at h6;cases h6
 ·exact h6)
 have hkey: ∀x o',(d,o')∈c.pairs→(d,o)∈c.pairs→o'=some x→o=some x:=fun x o' h1 h2 h3=>by(
 have hn:=Ui (c:=c)
 rw[← (ZF c).fst] at hn
 obtain⟨i,hi,e1⟩:=List.mem_iff_getElem.1 h1
 obtain⟨j,hj,e2⟩:=List.mem_iff_getElem.1 h2
 have:=Zbk hn (j:=i) (k:=j) (by simpa using hi) (by simpa using hj) (by rw[List.getElem_map,List.getElem_map,e1,e2])
 subst this
 rw[e1] at e2
 simp only[Prod.mk.injEq,true_and] at e2
 rw[← e2,h3])
 unfold Cfg.vnOf
 rw[Zb1 O hd1 hself,Zb2 (s:=2) fun x hx e=>by
  rw[Uj hx] at e
  subst e
  exact ZZ hx (by decide) hd1]
 have:c.at' 0 d=optZ o:=by(
 unfold Cfg.at'
 congr 1
 cases o with
 |some u=>
  have hu:=((ZF c).ups d u hp).1
  exact(Yo O).2 ⟨(ZW.1 hu).1,QA (ZF c) hp⟩
 |none=>(
 rw[List.find?_eq_none]
 intro x hx e
 have e:=of_decide_eq_true e
 rcases QC hx with⟨b',h1,h2⟩|⟨d',h1,-,h2⟩|⟨h1,-,h2⟩
 ·rw[h2] at e;subst e;exact ZZ (UL h1).1 (by decide) hd1
 ·rw[h2] at e
  subst e
  have:=hkey x (some x) h1 hp rfl
  cases this
 ·rw[h2] at e;subst e;exact ZZ hx (by decide) hd1))
 rw[this]))
 ·(
 unfold Cfg.vnU
 apply List.map_congr_left
 intro u hu
 obtain⟨h1,h2⟩:=List.mem_filter.1 hu
 have h2:Cfg.taken c.pairs u=false:=by simpa using h2
 have h3:=(ZW.1 h1).1
 have hself:c.one u=u:=by(
 rcases QC h3 with⟨b,h6,-⟩|⟨d,h6,-,-⟩|⟨-,-,h6⟩
 ·rw[(ZW.1 h1).2] at h6;cases h6
 ·rw[ZY.2 ⟨d,h6⟩] at h2;cases h2
 ·exact h6)
 unfold Cfg.vnOf
 rw[Zb1 O h3 hself,Zb2 (s:=1) fun x hx e=>by
  rcases VN hx with⟨b,h6,h7⟩|⟨-,h7⟩
  ·rw[h7] at e;subst e;exact ZZ (UL h6).1 (by decide) h3
  ·rw[h7] at e;subst e;exact ZZ hx (by decide) h3,Zb2 (s:=2) fun x hx e=>by
   rw[Uj hx] at e
   subst e
   exact ZZ hx (by decide) h3])
theorem ZfM {h:Nat}(hh:h∈c.homes):Cls c h∧c.one h=h:=by
 unfold Cfg.homes at hh
 rw[List.mem_append,List.mem_append] at hh
 rcases hh with(hh|hh)|hh
 ·exact⟨.of hh,Uj hh⟩
 ·(
 rw[(ZF c).fst] at hh
 have hd1:=(ZO.1 hh).1
 refine⟨.of hd1,?_⟩
 rcases VN hd1 with⟨b,h6,-⟩|⟨-,h6⟩
 ·rw[(ZO.1 hh).2] at h6;cases h6
 ·exact h6)
 ·(
 obtain⟨h1,h2⟩:=List.mem_filter.1 hh
 have h2:Cfg.taken c.pairs h=false:=by simpa using h2
 have h3:=(ZW.1 h1).1
 refine⟨.of h3,?_⟩
 rcases QC h3 with⟨b,h6,-⟩|⟨d,h6,-,-⟩|⟨-,-,h6⟩
 ·rw[(ZW.1 h1).2] at h6;cases h6
 ·rw[ZY.2 ⟨d,h6⟩] at h2;cases h2
 ·exact h6)
include O in
theorem ZfN {h:Nat}(hc:Cls c h)(e:c.one h=h):h∈c.homes:=by
 have hm:=hc.mem
 have h2:=O.sd2 h hc.1
 unfold Cfg.homes
 rw[List.mem_append,List.mem_append]
 by_cases e0:c.sd h=0
 ·(
 rw[e0] at hm
 right
 rcases QC hm with⟨b,h6,h7⟩|⟨d,-,h6,h7⟩|⟨h6,h7,-⟩
 ·rw[e] at h7;subst h7;exact absurd (UL h6).1 (ZZ hm (by decide))
 ·rw[e] at h7;subst h7;exact absurd (ZO.1 h6).1 (ZZ hm (by decide))
 ·exact List.mem_filter.2 ⟨h6,by rw[h7];rfl⟩)
 ·(
 by_cases e1:c.sd h=1
 ·(
 rw[e1] at hm
 refine .inl (.inr ?_)
 rw[(ZF c).fst]
 rcases VN hm with⟨b,h6,h7⟩|⟨h6,-⟩
 ·rw[e] at h7;subst h7;exact absurd (UL h6).1 (ZZ hm (by decide))
 ·exact h6)
 ·rw[show c.sd h=2 by omega] at hm
  exact .inl (.inl hm))
theorem Zb3:(c.homes).Nodup:=by
 have h1: ∀x∈c.cls 2,∀y∈c.pairs.map (·.1),x≠y:=fun x hx y hy e=>by(
 subst e
 rw[(ZF c).fst] at hy
 exact ZZ hx (by decide) (ZO.1 hy).1)
 have h2: ∀x∈c.cls 2++c.pairs.map (·.1),∀y∈c.left c.pairs,x≠y:=fun x hx y hy e=>by(
 subst e
 have:=(ZW.1 (List.mem_filter.1 hy).1).1
 rcases List.mem_append.1 hx with hx|hx
 ·exact ZZ hx (by decide) this
 ·rw[(ZF c).fst] at hx
  exact ZZ (ZO.1 hx).1 (by decide) this)
 unfold Cfg.homes
 rw[List.nodup_append,List.nodup_append]
 refine⟨⟨Yv 2,?_,h1⟩,Rx _,h2⟩
 rw[(ZF c).fst]
 exact Ui
theorem Zb4 (a x:Int):(0≤minZ a x↔0≤a∨0≤x)∧(0≤minZ a x→minZ a x=a∨minZ a x=x)∧(0≤a→minZ a x≤a)∧(0≤x→minZ a x≤x):=by
 unfold minZ
 split <;> omega
def Vn.has (v:Vn)(x:Nat):Prop:=v.u=(x:Int)∨v.d=(x:Int)∨v.b=(x:Int)
theorem Vn.Vl {v:Vn}:(∀x:Nat,v.has x→0≤v.first∧v.first≤(x:Int))∧(0≤v.first→ ∃x:Nat,v.first=(x:Int)∧v.has x):=by
 obtain⟨u,d,b⟩:=v
 unfold Vn.has Vn.first
 obtain⟨a1,a2,a3,a4⟩:=Zb4 (-1) u
 obtain⟨b1,b2,b3,b4⟩:=Zb4 (minZ (-1) u) d
 obtain⟨c1,c2,c3,c4⟩:=Zb4 (minZ (minZ (-1) u) d) b
 refine⟨fun x hx=> ?_,fun h=> ?_⟩
 ·simp only at hx ⊢
  omega
 ·(
 simp only at h ⊢
 obtain⟨x,hx⟩:=Int.eq_ofNat_of_zero_le h
 refine⟨x,hx,?_⟩
 rw[← hx]
 omega)
include O in
theorem Zc5 {h x:Nat}:(c.vnOf h).has x↔Cls c x∧c.one x=h:=by
 unfold Vn.has Cfg.vnOf Cfg.at'
 simp only
 rw[U8,U8,U8,Yo O,Yo O,Yo O]
 constructor
 ·rintro(⟨a,b⟩|⟨a,b⟩|⟨a,b⟩) <;> exact⟨.of a,b⟩
 ·(
 rintro⟨a,b⟩
 have hm:=a.mem
 have:=O.sd2 x a.1
 by_cases e0:c.sd x=0
 ·rw[e0] at hm;exact .inl ⟨hm,b⟩
 ·by_cases e1:c.sd x=1
  ·rw[e1] at hm;exact .inr (.inl ⟨hm,b⟩)
  ·rw[show c.sd x=2 by omega] at hm;exact .inr (.inr ⟨hm,b⟩))
theorem Qn {i:Nat}(h:Cls c i):c.home i=c.one i:=by unfold Cfg.home;rw[h.2.1]
include O in
theorem Zd9 {h i:Nat}(hh:h∈c.homes)(hi:i < c.n):(c.vnOf h).first=(i:Int)↔c.lead i=true∧c.home i=h:=by
 obtain⟨h1,h2⟩:=ZfM hh
 have f1:=(Vn.Vl (v:=c.vnOf h)).1
 obtain⟨x,x1,x2⟩:=(Vn.Vl (v:=c.vnOf h)).2 (f1 h ((Zc5 O).2 ⟨h1,h2⟩)).1
 obtain⟨x3,x4⟩:=(Zc5 O).1 x2
 have hx:c.home x=h:=(Qn x3).trans x4
 have least: ∀k < x,c.fx k=false→c.home k≠h:=fun k hk hf e=>by(
 have hkn:k < c.n:=Nat.lt_trans hk x3.1
 have:=(f1 (c.first k) ((Zc5 O).2 ⟨.first O hkn hf,e⟩)).2
 rw[x1] at this
 have:=O.le k
 omega)
 have hl:c.lead x=true:=ZU.2 ⟨x3.2.2,fun k hk hf=>by rw[hx];exact least k hk hf⟩
 rw[x1]
 constructor
 ·intro e
  have:x=i:=by omega
  subst this
  exact⟨hl,hx⟩
 ·(
 rintro⟨g1,g2⟩
 rcases Nat.lt_trichotomy x i with e|e|e
 ·exact absurd (hx.trans g2.symm) ((ZU.1 g1).2 x e x3.2.2)
 ·rw[e]
 ·exact absurd g2 (least i e (ZU.1 g1).1))
include O in
theorem Zbm:c.sorted=c.leads.map fun i=>c.vnOf (c.home i):=by
 have one': ∀i < c.n,(c.vns.filter fun x=>decide (x.first=(i:Int)))=if c.lead i=true then [c.vnOf (c.home i)] else []:=fun i hi=>by(
 rw[ZlU O,List.filter_map]
 have e:c.homes.filter ((fun x:Vn=>decide (x.first=(i:Int))) ∘ c.vnOf)=c.homes.filter fun h=>c.lead i && decide (h=c.home i):=by(
 apply List.filter_congr
 intro h hh
 rw[Bool.eq_iff_iff]
 simp only[Function.comp,decide_eq_true_eq,Bool.and_eq_true]
 rw[Zd9 O hh hi]
 exact and_congr Iff.rfl ⟨Eq.symm,Eq.symm⟩)
 rw[e]
 cases hl:c.lead i with
 |false=>simp
 |true=>(
 have hf:=(ZU.1 hl).1
 have hm:c.home i∈c.homes:=ZfN O (Zdi O hi hf) (Zgu O (.first O hi hf)).2
 have hn:=Zb3 (c:=c)
 simp only[Bool.true_and,if_true]
 clear e
 generalize c.homes=l at*
 have:l.filter (fun h=>decide (h=c.home i))= [c.home i]:=by(
 induction l with
 |nil=>simp at hm
 |cons a l ih=>(
 rw[List.nodup_cons] at hn
 by_cases e:a=c.home i
 ·(
 rw[List.filter_cons_of_pos (by simpa using e),e]
 congr 1
 rw[List.filter_eq_nil_iff]
 intro x hx e'
 have e':x=c.home i:=of_decide_eq_true e'
 exact hn.1 (by rw[e, ← e'];exact hx))
 ·(
 rw[List.filter_cons_of_neg (by simpa using e)]
 refine ih ?_ hn.2
 rcases List.mem_cons.1 hm with h|h
 ·exact absurd h.symm e
 ·exact h)))
 rw[this]
 rfl))
 unfold Cfg.sorted Cfg.vnsI Cfg.leads
 have: ∀j≤c.n,((List.range j).flatMap fun (i:Nat)=>c.vns.filter fun x=>decide (x.first=(i:Int)))=((List.range j).filter c.lead).map fun i=>c.vnOf (c.home i):=by(
 intro j
 induction j with
 |zero=>intro _;rfl
 |succ j ih=>(
 intro hj
 rw[List.range_succ,List.flatMap_append,List.filter_append,List.map_append,ih (by omega)]
 congr 1
 simp only[List.flatMap_cons,List.flatMap_nil,List.append_nil]
 rw[one' j (by omega)]
 cases e:c.lead j <;> simp[e]))
 exact this c.n lR
theorem ZfO:c.leads.length=c.vars:=rfl
theorem Zc6: ∀{j i:Nat},i < j→c.lead i=true→((List.range j).filter c.lead)[c.cnt i]?=some i
 |0,i,h,_=>by omega
 |j+1,i,h,hl=>by(
 rw[List.range_succ,List.filter_append]
 by_cases e:i=j
 ·subst e
  rw[List.getElem?_append_right (show((List.range i).filter c.lead).length≤c.cnt i from Nat.le_refl _)]
  show(List.filter c.lead [i])[c.cnt i - c.cnt i]?=some i
  simp[hl]
 ·rw[List.getElem?_append_left]
  ·exact Zc6 (by omega) hl
  ·exact cnt_lt (show i < j by omega) hl)
theorem ZfP {v:Nat}(h:v < c.vars): ∃i < c.n,c.lead i=true∧c.num i=v∧c.leads[v]?=some i:=by
 obtain⟨i,h1,h2,h3,h4⟩:=Zgv h
 refine⟨i,h1,h4,h3,?_⟩
 have:=Zc6 h1 h4
 rw[← Zcg h4,h3] at this
 exact this
include O in
theorem Vo:c.sorted.length=c.vars:=by rw[Zbm O,List.length_map,ZfO]
include O in
theorem sorted_at {v:Nat}(h:v < c.vars): ∃i < c.n,c.lead i=true∧c.num i=v∧c.sorted[v]?=some (c.vnOf (c.home i)):=by
 obtain⟨i,h1,h2,h3,h4⟩:=ZfP h
 refine⟨i,h1,h2,h3,?_⟩
 rw[Zbm O,List.getElem?_map,h4]
 rfl
include O in
theorem YQ {v j:Nat}{x:Vn}(h:c.sorted[v]?=some x)(hj:j < c.n)(hf:c.fx j=false):x.has (c.first j)↔c.num j=v:=by
 have hv:v < c.vars:=by rw[← Vo O];exact(List.getElem?_eq_some_iff.1 h).1
 obtain⟨i,h1,h2,h3,h4⟩:=sorted_at O hv
 rw[h] at h4
 have h4:=Option.some.inj h4
 subst h4
 rw[Zc5 O, ← h3,VO hf (ZU.1 h2).1]
 exact⟨fun k=>k.2,fun k=>⟨.first O hj hf,k⟩⟩
include O in
theorem ZlV {v:Nat}{x:Vn}(h:c.sorted[v]?=some x):(c.inn v=none∧x.inZ < 0)∨ ∃i y:Nat,c.inn v=some i∧x.inZ=(y:Int)∧Cls c y∧c.sd y≠1∧c.one y=c.home i:=by
 have hv:v < c.vars:=by rw[← Vo O];exact(List.getElem?_eq_some_iff.1 h).1
 obtain⟨i,h1,h2,h3,h4⟩:=sorted_at O hv
 rw[h] at h4
 have h4:=Option.some.inj h4
 subst h4
 have hf:=(ZU.1 h2).1
 have key: ∀y:Nat,Cls c y→c.sd y≠1→c.one y=c.home i→ ∃i',c.inn v=some i'∧c.one y=c.home i':=fun y a b e=>by(
 have hn:c.num y=v:=by rw[← h3];exact(VO a.2.2 hf).2 ((Qn a).trans e)
 obtain⟨i',hi'⟩:=Zax (but:=1) a.1 a.2.2 b hn
 obtain⟨-,g2,-,g4⟩:=VI hi'
 exact⟨i',hi',e.trans ((VO hf g2).1 (h3.trans g4.symm))⟩)
 unfold Vn.inZ Cfg.vnOf
 simp only
 by_cases e0:0≤c.at' 0 (c.home i)
 ·(
 rw[if_pos e0]
 obtain⟨y,hy⟩:=UI.1 e0
 obtain⟨y1,y2⟩:=(Yo O).1 hy
 obtain⟨i',g1,g2⟩:=key y (.of y1) (by rw[(Zt.1 y1).2.2.2];decide) y2
 exact .inr ⟨i',y,g1,U8.2 hy,.of y1,by rw[(Zt.1 y1).2.2.2];decide,g2⟩)
 ·(
 rw[if_neg e0]
 by_cases e2:0≤c.at' 2 (c.home i)
 ·obtain⟨y,hy⟩:=UI.1 e2
  obtain⟨y1,y2⟩:=(Yo O).1 hy
  obtain⟨i',g1,g2⟩:=key y (.of y1) (by rw[(Zt.1 y1).2.2.2];decide) y2
  exact .inr ⟨i',y,g1,U8.2 hy,.of y1,by rw[(Zt.1 y1).2.2.2];decide,g2⟩
 ·(
 refine .inl ⟨?_,by omega⟩
 cases e:c.inn v with
 |none=>rfl
 |some i'=>(
 exfalso
 obtain⟨g1,g2,g3,g4⟩:=VI e
 have hc:=Cls.first O g1 g2
 have hone:c.one (c.first i')=c.home i:=(VO g2 hf).1 (g4.trans h3.symm)
 have hm:=hc.mem
 have:=O.sd2 _ hc.1
 have hs:=O.sdf i' g1
 by_cases k0:c.sd (c.first i')=0
 ·rw[k0] at hm
  exact e0 (UI.2 ⟨_,(Yo O).2 ⟨hm,hone⟩⟩)
 ·rw[show c.sd (c.first i')=2 by omega] at hm
  exact e2 (UI.2 ⟨_,(Yo O).2 ⟨hm,hone⟩⟩))))
include O in
theorem ZkB {v:Nat}{x:Vn}(h:c.sorted[v]?=some x):(c.out v=none∧x.outZ < 0)∨ ∃i y:Nat,c.out v=some i∧x.outZ=(y:Int)∧Cls c y∧c.sd y≠0∧c.one y=c.home i:=by
 have hv:v < c.vars:=by rw[← Vo O];exact(List.getElem?_eq_some_iff.1 h).1
 obtain⟨i,h1,h2,h3,h4⟩:=sorted_at O hv
 rw[h] at h4
 have h4:=Option.some.inj h4
 subst h4
 have hf:=(ZU.1 h2).1
 have key: ∀y:Nat,Cls c y→c.sd y≠0→c.one y=c.home i→ ∃i',c.out v=some i'∧c.one y=c.home i':=fun y a b e=>by(
 have hn:c.num y=v:=by rw[← h3];exact(VO a.2.2 hf).2 ((Qn a).trans e)
 obtain⟨i',hi'⟩:=Zax (but:=0) a.1 a.2.2 b hn
 obtain⟨-,g2,-,g4⟩:=VI hi'
 exact⟨i',hi',e.trans ((VO hf g2).1 (h3.trans g4.symm))⟩)
 unfold Vn.outZ Cfg.vnOf
 simp only
 by_cases e0:0≤c.at' 1 (c.home i)
 ·(
 rw[if_pos e0]
 obtain⟨y,hy⟩:=UI.1 e0
 obtain⟨y1,y2⟩:=(Yo O).1 hy
 obtain⟨i',g1,g2⟩:=key y (.of y1) (by rw[(Zt.1 y1).2.2.2];decide) y2
 exact .inr ⟨i',y,g1,U8.2 hy,.of y1,by rw[(Zt.1 y1).2.2.2];decide,g2⟩)
 ·(
 rw[if_neg e0]
 by_cases e2:0≤c.at' 2 (c.home i)
 ·obtain⟨y,hy⟩:=UI.1 e2
  obtain⟨y1,y2⟩:=(Yo O).1 hy
  obtain⟨i',g1,g2⟩:=key y (.of y1) (by rw[(Zt.1 y1).2.2.2];decide) y2
  exact .inr ⟨i',y,g1,U8.2 hy,.of y1,by rw[(Zt.1 y1).2.2.2];decide,g2⟩
 ·(
 refine .inl ⟨?_,by omega⟩
 cases e:c.out v with
 |none=>rfl
 |some i'=>(
 exfalso
 obtain⟨g1,g2,g3,g4⟩:=VI e
 have hc:=Cls.first O g1 g2
 have hone:c.one (c.first i')=c.home i:=(VO g2 hf).1 (g4.trans h3.symm)
 have hm:=hc.mem
 have:=O.sd2 _ hc.1
 have hs:=O.sdf i' g1
 by_cases k0:c.sd (c.first i')=1
 ·rw[k0] at hm
  exact e0 (UI.2 ⟨_,(Yo O).2 ⟨hm,hone⟩⟩)
 ·rw[show c.sd (c.first i')=2 by omega] at hm
  exact e2 (UI.2 ⟨_,(Yo O).2 ⟨hm,hone⟩⟩))))
include O in
theorem ZfQ {v w:Nat}{x y:Vn}(h:c.sorted[v]?=some x)(g:c.sorted[w]?=some y):x=y↔v=w:=by
 constructor
 ·(
 intro e
 have hv:v < c.vars:=by rw[← Vo O];exact(List.getElem?_eq_some_iff.1 h).1
 obtain⟨i,h1,h2,h3,h4⟩:=sorted_at O hv
 have hf:=(ZU.1 h2).1
 rw[← h3, ← (YQ O g h1 hf), ← e,YQ O h h1 hf,h3])
 ·intro e
  subst e
  rw[h] at g
  exact Option.some.inj g
end
end Go.Proofs.YtmejhedegmjboaaGreat.PaC
namespace Go.Proofs.YtmejhedegmjboaaGreat.I
open Go.RowKit PaC
def ndC (x:Vn):List Value:= [.int .i64 x.u,.int .i64 x.d,.int .i64 x.b]
theorem ZC (x:Vn):(ndC x).length=3:=rfl
def ndV (x:Vn):Value:= .agg #[.int .i64 x.u,.int .i64 x.d,.int .i64 x.b]
theorem Zjn (x:Vn)(w:World):Calls Tryz.prog 37 #[ndV x] w fun e w'=>e= .returned (.int .i64 x.inZ)∧Below w.heap.size w w':=by
 obtain⟨u,d,b⟩:=x
 unfold ndV
 simp only
 have hb:Below w.heap.size w (w.alloc (.cells #[.int .i64 u,.int .i64 d,.int .i64 b] 95)):=bA
 have HB:=Hd hb
 have hk:=heap_alloc_new w (.cells #[.int .i64 u,.int .i64 d,.int .i64 b] 95)
 have k0:=(Zb (i:=0) hk).trans rfl
 have k2:=(Zb (i:=2) hk).trans rfl
 clear hb hk
 by_cases h0:0≤u
 ·(
 have HR:Hid (Vn.inZ ⟨u,d,b⟩=u):=Hd (if_pos h0)
 go_enter Tryz.func37,Tryz.ntmps37
 go_wp2
 go_ret
 exact⟨by rw[HR.out];rfl,HB.out⟩)
 ·(
 have HR:Hid (Vn.inZ ⟨u,d,b⟩=b):=Hd (if_neg h0)
 go_enter Tryz.func37,Tryz.ntmps37
 go_wp2
 go_ret
 exact⟨by rw[HR.out];rfl,HB.out⟩)
theorem ZgA (x:Vn)(w:World):Calls Tryz.prog 39 #[ndV x] w fun e w'=>e= .returned (.int .i64 x.outZ)∧Below w.heap.size w w':=by
 obtain⟨u,d,b⟩:=x
 unfold ndV
 simp only
 have hb:Below w.heap.size w (w.alloc (.cells #[.int .i64 u,.int .i64 d,.int .i64 b] 95)):=bA
 have HB:=Hd hb
 have hk:=heap_alloc_new w (.cells #[.int .i64 u,.int .i64 d,.int .i64 b] 95)
 have k0:=(Zb (i:=1) hk).trans rfl
 have k2:=(Zb (i:=2) hk).trans rfl
 clear hb hk
 by_cases h0:0≤d
 ·(
 have HR:Hid (Vn.outZ ⟨u,d,b⟩=d):=Hd (if_pos h0)
 go_enter Tryz.func39,Tryz.ntmps39
 go_wp2
 go_ret
 exact⟨by rw[HR.out];rfl,HB.out⟩)
 ·(
 have HR:Hid (Vn.outZ ⟨u,d,b⟩=b):=Hd (if_neg h0)
 go_enter Tryz.func39,Tryz.ntmps39
 go_wp2
 go_ret
 exact⟨by rw[HR.out];rfl,HB.out⟩)
def nd3 (x:Vn)(i:Nat):Int:=if i=0 then x.u else if i=1 then x.d else x.b
def ndF (x:Vn):Nat→Int
 |0=> -1
 |i+1=>minZ (ndF x i) (nd3 x i)
theorem Zk1 (x:Vn):ndF x 3=x.first:=rfl
theorem ZgB {a y:Int}(h:y < 0∨(0≤a∧a≤y)):minZ a y=a:=by
 unfold minZ
 rw[if_neg (by omega)]
theorem Zdq {a y:Int}(h:0≤y)(h2:a < 0∨y < a):minZ a y=y:=by
 unfold minZ
 rw[if_pos ⟨h,h2⟩]
theorem ZgC (x:Vn)(w:World):Calls Tryz.prog 111 #[ndV x] w fun e w'=>e= .returned (.int .i64 x.first)∧Below w.heap.size w w':=by
 unfold ndV
 obtain⟨wa,hwa⟩: ∃wa,w.alloc (.cells #[.int .i64 x.u,.int .i64 x.d,.int .i64 x.b] 95)=wa:=⟨_,rfl⟩
 have hb:Below w.heap.size w wa:=hwa▸bA
 have hk:wa.heap[w.heap.size]?=some (.cells #[.int .i64 x.u,.int .i64 x.d,.int .i64 x.b] 95 (0,0)):=hwa▸heap_alloc_new w _
 have HB:=Hd (hb.trans ((show Below wa.heap.size wa (wa.alloc (.cells #[.int .i64 x.u,.int .i64 x.d,.int .i64 x.b] 3)) from bA).mono hb.size))
 have HL:Hid (∀i,i < 3→(wa.alloc (.cells #[.int .i64 x.u,.int .i64 x.d,.int .i64 x.b] 3)).cell? ⟨wa.heap.size,i,none⟩=some (.int .i64 (nd3 x i))):=Hd fun i hi=>by(
 have h:=heap_alloc_new wa (.cells #[.int .i64 x.u,.int .i64 x.d,.int .i64 x.b] 3)
 match i,hi with
 |0,_=>exact(Zb (i:=0) h).trans rfl
 |1,_=>exact(Zb (i:=1) h).trans rfl
 |2,_=>exact(Zb (i:=2) h).trans rfl)
 have k0:=(Zb (i:=0) hk).trans rfl
 have k1:=(Zb (i:=1) hk).trans rfl
 have k2:=(Zb (i:=2) hk).trans rfl
 clear hb hk
 go_enter Tryz.func111,Tryz.ntmps111
 go_wp2_with fail
 clear k0 k1 k2 hwa
 generalize wa.alloc (.cells #[.int .i64 x.u,.int .i64 x.d,.int .i64 x.b] 3)=wb at*
 go_loopw [3,5] (fun v3 v5 wr=> ∃i:Nat,v5= .int .i64 (i:Int)∧v3= .int .i64 (ndF x i)∧i≤3∧wr=wb) (fun _ v5 _=>3 - (intOf v5).toNat)
 case atStart=>exact⟨0,rfl,rfl,Nat.zero_le _,rfl⟩
 case round=>(
 obtain⟨i,rfl,rfl,hi,rfl⟩:=hrel
 by_cases hlt:i < 3
 ·(
 have u0:=HL.out i hlt
 have HLT:=Hd hlt
 have hin:(i:Int) < (3:Int):=by omega
 have hi9:i≤3:=hi
 have HN:Hid (ndF x (i+1)=minZ (ndF x i) (nd3 x i)):=Hd rfl
 generalize nd3 x i=y at*
 generalize ndF x i=a at*
 clear hi hlt
 by_cases h0:0≤y
 ·(
 by_cases h1:a < 0
 ·(
 have HM:=Hd (Zdq h0 (.inl h1))
 go_wp2_with fail
 go_roundw
 case rel=>exact⟨i+1,by go_num,by rw[HN.out,HM.out],HLT.out,trivial⟩
 case measure=>(
 have:=HLT.out
 simp[intOf]
 omega))
 ·(
 by_cases h2:y < a
 ·(
 have HM:=Hd (Zdq h0 (.inr h2))
 go_wp2_with fail
 go_roundw
 case rel=>exact⟨i+1,by go_num,by rw[HN.out,HM.out],HLT.out,trivial⟩
 case measure=>(
 have:=HLT.out
 simp[intOf]
 omega))
 ·(
 have HM:=Hd (ZgB (a:=a) (y:=y) (.inr ⟨by omega,by omega⟩))
 go_wp2_with fail
 go_roundw
 case rel=>exact⟨i+1,by go_num,by rw[HN.out,HM.out],HLT.out,trivial⟩
 case measure=>(
 have:=HLT.out
 simp[intOf]
 omega))))
 ·(
 have HM:=Hd (ZgB (a:=a) (y:=y) (.inl (by omega)))
 go_wp2_with fail
 go_roundw
 case rel=>exact⟨i+1,by go_num,by rw[HN.out,HM.out],HLT.out,trivial⟩
 case measure=>(
 have:=HLT.out
 simp[intOf]
 omega)))
 ·(
 obtain rfl:i=3:=by omega
 clear hlt hi
 go_wp2_with fail
 go_ret
 exact⟨by rw[Zk1];rfl,HB.out⟩))
end Go.Proofs.YtmejhedegmjboaaGreat.I
