/- Which classes are one variable, and how variables are numbered: lists and functions. No condition. -/
namespace Go.Proofs.YtmejhedegmjboaaGreat.PaC
structure Cfg where
 n:Nat
 first:Nat→Nat
 fx:Nat→Bool
 sd:Nat→Nat
 so:Nat→Nat→Bool
 si:Nat→Nat→Bool
 fit:Nat→Nat→Bool
namespace Cfg
variable (c:Cfg)
def is (s i:Nat):Bool:=decide (c.first i=i) && (!c.fx i && decide (c.sd i=s))
def cls (s:Nat):List Nat:=(List.range c.n).filter (c.is s)
def mg (f:Nat→Nat→Bool)(x:Nat):Option Nat:=(c.cls 2).find? (f x)
def oth (s:Nat)(f:Nat→Nat→Bool):List Nat:=(c.cls s).filter fun x=>(c.mg f x).isNone
def downs:List Nat:=c.oth 1 c.so
def ups:List Nat:=c.oth 0 c.si
def one1 (x:Nat):Nat:=if c.is 1 x=true then(c.mg c.so x).getD x else if c.is 0 x=true then(c.mg c.si x).getD x else x
abbrev Ps:=List (Nat×Option Nat)
def taken (s:Ps)(u:Nat):Bool:=s.any fun p=>decide (p.2=some u)
def seek (s:Ps)(d:Nat):Option Nat:=c.ups.find? fun u=> !taken s u && c.fit d u
def stepQ (s:Ps)(d:Nat):Ps:=s++ [(d,c.seek s d)]
def pairs:Ps:=c.downs.foldl c.stepQ []
def oneM (s:Ps)(x:Nat):Nat:=((s.find? fun p=>decide (p.2=some x)).map (·.1)).getD (c.one1 x)
def one:Nat→Nat:=c.oneM c.pairs
def home (i:Nat):Nat:=c.one (c.first i)
def lead (i:Nat):Bool:= !c.fx i && (List.range i).all fun k=>c.fx k|| !decide (c.home k=c.home i)
def cnt (i:Nat):Nat:=((List.range i).filter c.lead).length
def key (i:Nat):Nat:=((List.range i).find? fun k=> !c.fx k && decide (c.home k=c.home i)).getD i
def num (i:Nat):Nat:=c.cnt (c.key i)
def vars:Nat:=c.cnt c.n
def seat (but v:Nat):Nat→Option Nat
 |0=>none
 |j+1=>if (!c.fx j && (!decide (c.sd j=but) && decide (c.num j=v)))=true then some j else seat but v j
def inn (v:Nat):Option Nat:=c.seat 1 v c.n
def out (v:Nat):Option Nat:=c.seat 0 v c.n
end Cfg
structure Cfg.Ok (c:Cfg):Prop where
 le: ∀i,c.first i≤i
 idem: ∀i,c.first (c.first i)=c.first i
 fxf: ∀i,i < c.n→c.fx (c.first i)=c.fx i
 sdf: ∀i,i < c.n→c.sd (c.first i)=c.sd i
 soS: ∀i j,c.so i j=true→c.so j i=true
 siS: ∀i j,c.si i j=true→c.si j i=true
 soT: ∀i j k,c.so i j=true→c.so j k=true→c.so i k=true
 siT: ∀i j k,c.si i j=true→c.si j k=true→c.si i k=true
 soU: ∀i j,i < c.n→j < c.n→c.sd i=1→c.sd j=1→c.so i j=true→c.first i=c.first j
 siU: ∀i j,i < c.n→j < c.n→c.sd i=0→c.sd j=0→c.si i j=true→c.first i=c.first j
 soF: ∀i,i < c.n→c.sd i≠0→c.so i (c.first i)=true
 siF: ∀i,i < c.n→c.sd i≠1→c.si i (c.first i)=true
 sd2: ∀i,i < c.n→c.sd i≤2
section
variable {c:Cfg}
theorem mem_cls {s i:Nat}:i∈c.cls s↔i < c.n∧c.first i=i∧c.fx i=false∧c.sd i=s:=by
 unfold Cfg.cls Cfg.is
 simp
theorem is_iff {s i:Nat}:c.is s i=true↔c.first i=i∧c.fx i=false∧c.sd i=s:=by
 unfold Cfg.is
 simp
theorem cls_nodup (s:Nat):(c.cls s).Nodup:=List.nodup_range.filter _
theorem mg_some {f:Nat→Nat→Bool}{x b:Nat}(h:c.mg f x=some b):b∈c.cls 2∧f x b=true:=⟨List.mem_of_find?_eq_some h,List.find?_some h⟩
theorem mem_oth {s:Nat}{f:Nat→Nat→Bool}{x:Nat}:x∈c.oth s f↔x∈c.cls s∧c.mg f x=none:=by
 unfold Cfg.oth
 simp
theorem mem_downs {x:Nat}:x∈c.downs↔x∈c.cls 1∧c.mg c.so x=none:=mem_oth
theorem mem_ups {x:Nat}:x∈c.ups↔x∈c.cls 0∧c.mg c.si x=none:=mem_oth
theorem downs_nodup:c.downs.Nodup:=(cls_nodup 1).filter _
structure PsOk (c:Cfg)(l:List Nat)(s:Cfg.Ps):Prop where
 fst:s.map (·.1)=l
 ups: ∀d u,(d,some u)∈s→u∈c.ups∧c.fit d u=true
 inj: ∀d d' u,(d,some u)∈s→(d',some u)∈s→d=d'
 full: ∀d,(d,none)∈s→ ∀u∈c.ups,c.fit d u=true→Cfg.taken s u=true
theorem taken_iff {s:Cfg.Ps}{u:Nat}:Cfg.taken s u=true↔ ∃d,(d,some u)∈s:=by
 unfold Cfg.taken
 rw[List.any_eq_true]
 constructor
 ·rintro⟨⟨d,o⟩,h1,h2⟩
  have h2:o=some u:=of_decide_eq_true h2
  subst h2
  exact⟨d,h1⟩
 ·rintro⟨d,h⟩
  exact⟨_,h,by simp⟩
theorem PsOk.zero:PsOk c [] []:=⟨rfl,(fun _ _ h=>by simp at h),(fun _ _ _ h=>by simp at h),fun _ h=>by simp at h⟩
theorem PsOk.next {l:List Nat}{s:Cfg.Ps}(h:PsOk c l s)(d:Nat):PsOk c (l++ [d]) (c.stepQ s d):=by
 unfold Cfg.stepQ
 have hs: ∀u,c.seek s d=some u→u∈c.ups∧Cfg.taken s u=false∧c.fit d u=true:=fun u e=>by
  have h1:=List.find?_some e
  have h2:=List.mem_of_find?_eq_some e
  simp only[Bool.and_eq_true,Bool.not_eq_true'] at h1
  exact⟨h2,h1⟩
 refine⟨by simp[h.fst],fun d' u hm=> ?_,fun d1 d2 u h1 h2=> ?_,fun d' hm u hu hf=> ?_⟩
 ·rcases List.mem_append.1 hm with hm|hm
  ·exact h.ups d' u hm
  ·simp only[List.mem_singleton,Prod.mk.injEq] at hm
   obtain⟨rfl,e⟩:=hm
   have:=hs u e.symm
   exact⟨this.1,this.2.2⟩
 ·have key: ∀d',(d',some u)∈s→c.seek s d=some u→False:=fun d' a b=>by
   have h3:=(hs u b).2.1
   have h4:=taken_iff.2 ⟨d',a⟩
   rw[h3] at h4
   cases h4
  rcases List.mem_append.1 h1 with h1|h1 <;> rcases List.mem_append.1 h2 with h2|h2
  ·exact h.inj d1 d2 u h1 h2
  ·simp only[List.mem_singleton,Prod.mk.injEq] at h2
   exact(key d1 h1 h2.2.symm).elim
  ·simp only[List.mem_singleton,Prod.mk.injEq] at h1
   exact(key d2 h2 h1.2.symm).elim
  ·simp only[List.mem_singleton,Prod.mk.injEq] at h1 h2
   rw[h1.1,h2.1]
 ·rw[taken_iff]
  rcases List.mem_append.1 hm with hm|hm
  ·obtain⟨d2,h2⟩:=taken_iff.1 (h.full d' hm u hu hf)
   exact⟨d2,List.mem_append_left _ h2⟩
  ·simp only[List.mem_singleton,Prod.mk.injEq] at hm
   obtain⟨rfl,e⟩:=hm
   have h3:=List.find?_eq_none.1 e.symm u hu
   simp only[hf,Bool.and_true,Bool.not_eq_true',Bool.not_eq_false] at h3
   obtain⟨d2,h2⟩:=taken_iff.1 h3
   exact⟨d2,List.mem_append_left _ h2⟩
theorem PsOk.all: ∀(r:List Nat) {l:List Nat} {s:Cfg.Ps},PsOk c l s→PsOk c (l++r) (r.foldl c.stepQ s)
 | [],l,s,h=>by simpa using h
 |d::r,l,s,h=>by
  have:=PsOk.all r (h.next d)
  rw[List.append_assoc] at this
  exact this
theorem pairs_ok (c:Cfg):PsOk c c.downs c.pairs:=by
 have:=PsOk.all (c:=c) c.downs PsOk.zero
 rwa [List.nil_append] at this
theorem oneM_some {s:Cfg.Ps}{l:List Nat}(h:PsOk c l s){d u:Nat}(hm:(d,some u)∈s):c.oneM s u=d:=by
 unfold Cfg.oneM
 cases e:s.find? fun p=>decide (p.2=some u) with
 |none=>
  have:=List.find?_eq_none.1 e _ hm
  simp at this
 |some p=>
  obtain⟨d',o⟩:=p
  have h1:=List.find?_some e
  have h2:=List.mem_of_find?_eq_some e
  have h1:o=some u:=of_decide_eq_true h1
  subst h1
  exact h.inj d' d u h2 hm
theorem oneM_none {s:Cfg.Ps}{x:Nat}(h:Cfg.taken s x=false):c.oneM s x=c.one1 x:=by
 unfold Cfg.oneM
 cases e:s.find? fun p=>decide (p.2=some x) with
 |none=>rfl
 |some p=>
  obtain⟨d',o⟩:=p
  have h1:=List.find?_some e
  have h2:=List.mem_of_find?_eq_some e
  have h1:o=some x:=of_decide_eq_true h1
  subst h1
  have:=taken_iff.2 ⟨d',h2⟩
  rw[h] at this
  cases this
theorem oneM_put {s:Cfg.Ps}{d u:Nat}(h:Cfg.taken s u=false):c.oneM (s++ [(d,some u)])=fun x=>if x=u then d else c.oneM s x:=by
 funext x
 unfold Cfg.oneM
 rw[List.find?_append]
 by_cases e:x=u
 ·subst e
  rw[if_pos rfl]
  have:(s.find? fun p=>decide (p.2=some x))=none:=by
   rw[List.find?_eq_none]
   rintro⟨d',o⟩ hp ho
   have ho:o=some x:=of_decide_eq_true ho
   subst ho
   have:=taken_iff.2 ⟨d',hp⟩
   rw[h] at this
   cases this
  rw[this]
  simp
 ·rw[if_neg e]
  have:([(d,some u)]:Cfg.Ps).find? (fun p=>decide (p.2=some x))=none:=by
   rw[List.find?_eq_none]
   intro p hp
   simp only[List.mem_singleton] at hp
   subst hp
   simp[Ne.symm e]
  rw[this,Option.or_none]
theorem oneM_skip {s:Cfg.Ps}{d:Nat}:c.oneM (s++ [(d,none)])=c.oneM s:=by
 funext x
 unfold Cfg.oneM
 rw[List.find?_append]
 simp
theorem one1_both {x:Nat}(h:x∈c.cls 2):c.one1 x=x:=by
 obtain⟨-,-,-,h⟩:=mem_cls.1 h
 unfold Cfg.one1
 rw[if_neg (fun e=>by have:=(is_iff.1 e).2.2;omega),if_neg (fun e=>by have:=(is_iff.1 e).2.2;omega)]
theorem one1_down {x:Nat}(h:x∈c.cls 1):c.one1 x=(c.mg c.so x).getD x:=by
 obtain⟨-,h1,h2,h3⟩:=mem_cls.1 h
 unfold Cfg.one1
 rw[if_pos (is_iff.2 ⟨h1,h2,h3⟩)]
theorem one1_up {x:Nat}(h:x∈c.cls 0):c.one1 x=(c.mg c.si x).getD x:=by
 obtain⟨-,h1,h2,h3⟩:=mem_cls.1 h
 unfold Cfg.one1
 rw[if_neg (fun e=>by have:=(is_iff.1 e).2.2;omega),if_pos (is_iff.2 ⟨h1,h2,h3⟩)]
theorem not_taken {s:Cfg.Ps}{l:List Nat}(h:PsOk c l s){x:Nat}(hx:x∉c.ups):Cfg.taken s x=false:=by
 cases e:Cfg.taken s x with
 |false=>rfl
 |true=>
  obtain⟨d,hd⟩:=taken_iff.1 e
  exact absurd (h.ups d x hd).1 hx
theorem side_ne {x s t:Nat}(h:x∈c.cls s)(ht:s≠t):x∉c.cls t:=fun k=>ht ((mem_cls.1 h).2.2.2.symm.trans (mem_cls.1 k).2.2.2)
theorem one_both {x:Nat}(h:x∈c.cls 2):c.one x=x:=by
 unfold Cfg.one
 rw[oneM_none (not_taken (pairs_ok c) fun k=>side_ne h (by decide) (mem_ups.1 k).1),one1_both h]
theorem one_down {x:Nat}(h:x∈c.cls 1):(∃b,c.mg c.so x=some b∧c.one x=b)∨(x∈c.downs∧c.one x=x):=by
 unfold Cfg.one
 rw[oneM_none (not_taken (pairs_ok c) fun k=>side_ne h (by decide) (mem_ups.1 k).1),one1_down h]
 cases e:c.mg c.so x with
 |some b=>exact .inl ⟨b,rfl,rfl⟩
 |none=>exact .inr ⟨mem_downs.2 ⟨h,e⟩,rfl⟩
theorem one_up {x:Nat}(h:x∈c.cls 0):(∃b,c.mg c.si x=some b∧c.one x=b)∨(∃d,(d,some x)∈c.pairs∧d∈c.downs∧c.one x=d)∨(x∈c.ups∧Cfg.taken c.pairs x=false∧c.one x=x):=by
 cases e:c.mg c.si x with
 |some b=>
  refine .inl ⟨b,rfl,?_⟩
  unfold Cfg.one
  rw[oneM_none (not_taken (pairs_ok c) fun k=>by rw[(mem_ups.1 k).2] at e;cases e),one1_up h,e]
  rfl
 |none=>
  right
  have hu:=mem_ups.2 ⟨h,e⟩
  cases t:Cfg.taken c.pairs x with
  |true=>
   obtain⟨d,hd⟩:=taken_iff.1 t
   refine .inl ⟨d,hd,?_,oneM_some (pairs_ok c) hd⟩
   have:=(pairs_ok c).fst
   rw[← this]
   exact List.mem_map.2 ⟨_,hd,rfl⟩
  |false=>
   refine .inr ⟨hu,rfl,?_⟩
   unfold Cfg.one
   rw[oneM_none t,one1_up h,e]
   rfl
def Cls (c:Cfg)(x:Nat):Prop:=x < c.n∧c.first x=x∧c.fx x=false
theorem Cls.of {s x:Nat}(h:x∈c.cls s):Cls c x:=⟨(mem_cls.1 h).1,(mem_cls.1 h).2.1,(mem_cls.1 h).2.2.1⟩
theorem Cls.mem {x:Nat}(h:Cls c x):x∈c.cls (c.sd x):=mem_cls.2 ⟨h.1,h.2.1,h.2.2,rfl⟩
theorem Cls.first (O:c.Ok){i:Nat}(h:i < c.n)(hf:c.fx i=false):Cls c (c.first i):=⟨Nat.lt_of_le_of_lt (O.le i) h,O.idem i,(O.fxf i h).trans hf⟩
inductive OneIs (c:Cfg) (x:Nat):Prop
 |self (h:c.one x=x) (hd:c.sd x=1→x∈c.downs) (hu:c.sd x=0→x∈c.ups∧Cfg.taken c.pairs x=false)
 |out (b:Nat) (h:c.one x=b) (hx:c.sd x=1) (hb:b∈c.cls 2) (hs:c.so x b=true) (hm:c.mg c.so x=some b)
 |inn (b:Nat) (h:c.one x=b) (hx:c.sd x=0) (hb:b∈c.cls 2) (hs:c.si x b=true) (hm:c.mg c.si x=some b)
 |pair (d:Nat) (h:c.one x=d) (hx:c.sd x=0) (hb:d∈c.downs) (hu:x∈c.ups) (hp:(d,some x)∈c.pairs) (hf:c.fit d x=true)
theorem one_is (O:c.Ok){x:Nat}(h:Cls c x):OneIs c x:=by
 have hm:=h.mem
 have h2:=O.sd2 x h.1
 by_cases e0:c.sd x=0
 ·rw[e0] at hm
  rcases one_up hm with⟨b,h3,h4⟩|⟨d,h3,h4,h5⟩|⟨h3,h4,h5⟩
  ·exact .inn b h4 e0 (mg_some h3).1 (mg_some h3).2 h3
  ·exact .pair d h5 e0 h4 ((pairs_ok c).ups d x h3).1 h3 ((pairs_ok c).ups d x h3).2
  ·exact .self h5 (fun e=>by omega) fun _=>⟨h3,h4⟩
 ·by_cases e1:c.sd x=1
  ·rw[e1] at hm
   rcases one_down hm with⟨b,h3,h4⟩|⟨h3,h4⟩
   ·exact .out b h4 e1 (mg_some h3).1 (mg_some h3).2 h3
   ·exact .self h4 (fun _=>h3) fun e=>by omega
  ·have e2:c.sd x=2:=by omega
   rw[e2] at hm
   exact .self (one_both hm) (fun e=>by omega) fun e=>by omega
theorem one_cls (O:c.Ok){x:Nat}(h:Cls c x):Cls c (c.one x)∧c.one (c.one x)=c.one x:=by
 cases one_is O h with
 |self e _ _=>rw[e];exact⟨h,e⟩
 |out b e _ hb _ _=>rw[e];exact⟨.of hb,one_both hb⟩
 |inn b e _ hb _ _=>rw[e];exact⟨.of hb,one_both hb⟩
 |pair d e _ hb _ _ _=>
  rw[e]
  have hd:=mem_downs.1 hb
  refine⟨.of hd.1,?_⟩
  rcases one_down hd.1 with⟨b,h3,-⟩|⟨-,h4⟩
  ·rw[hd.2] at h3;cases h3
  ·exact h4
theorem one_inj (O:c.Ok){x y:Nat}(hx:Cls c x)(hy:Cls c y)(hs:c.sd x=c.sd y)(h:c.one x=c.one y):x=y:=by
 have b2: ∀{b},b∈c.cls 2→c.sd b=2:=fun h=>(mem_cls.1 h).2.2.2
 have b1: ∀{b},b∈c.downs→c.sd b=1:=fun h=>(mem_cls.1 (mem_downs.1 h).1).2.2.2
 have b0: ∀{b},b∈c.ups→c.sd b=0:=fun h=>(mem_cls.1 (mem_ups.1 h).1).2.2.2
 cases one_is O hx with
 |self e _ _=>
  cases one_is O hy with
  |self e' _ _=>rw[e,e'] at h;exact h
  |out b e' k hb _ _=>rw[e,e'] at h;have:=b2 hb;rw[← h] at this;omega
  |inn b e' k hb _ _=>rw[e,e'] at h;have:=b2 hb;rw[← h] at this;omega
  |pair b e' k hb _ _ _=>rw[e,e'] at h;have:=b1 hb;rw[← h] at this;omega
 |out b e k hb hso _=>
  cases one_is O hy with
  |self e' _ _=>rw[e,e'] at h;have:=b2 hb;rw[h] at this;omega
  |out b' e' k' hb' hso' _=>
   rw[e,e'] at h
   subst h
   have:=O.soU x y hx.1 hy.1 k k' (O.soT _ _ _ hso (O.soS _ _ hso'))
   rwa [hx.2.1,hy.2.1] at this
  |inn b' e' k' hb' _ _=>omega
  |pair b' e' k' hb' _ _ _=>omega
 |inn b e k hb hso _=>
  cases one_is O hy with
  |self e' _ _=>rw[e,e'] at h;have:=b2 hb;rw[h] at this;omega
  |out b' e' k' hb' hso' _=>omega
  |inn b' e' k' hb' hso' _=>
   rw[e,e'] at h
   subst h
   have:=O.siU x y hx.1 hy.1 k k' (O.siT _ _ _ hso (O.siS _ _ hso'))
   rwa [hx.2.1,hy.2.1] at this
  |pair b' e' k' hb' _ _ _=>rw[e,e'] at h;have:=b1 hb';rw[← h,b2 hb] at this;omega
 |pair d e k hb _ hp _=>
  cases one_is O hy with
  |self e' _ _=>rw[e,e'] at h;have:=b1 hb;rw[h] at this;omega
  |out b' e' k' hb' hso' _=>omega
  |inn b' e' k' hb' hso' _=>rw[e,e'] at h;have:=b1 hb;rw[h,b2 hb'] at this;omega
  |pair d' e' k' hb' _ hp' _=>
   rw[e,e'] at h
   subst h
   have hn:c.pairs.Nodup:=by
    have:=downs_nodup (c:=c)
    rw[← (pairs_ok c).fst] at this
    exact(List.pairwise_map.1 this).imp fun {a b} hab e=>hab (congrArg (·.1) e)
   have hn1:=downs_nodup (c:=c)
   rw[← (pairs_ok c).fst] at hn1
   have key: ∀(s:Cfg.Ps),(s.map (·.1)).Nodup→ ∀p q,p∈s→q∈s→p.1=q.1→p=q:=by
    intro s
    induction s with
    |nil=>intro _ p q hp;simp at hp
    |cons a s ih=>
     intro hn p q hp hq e
     rw[List.map_cons,List.nodup_cons] at hn
     rcases List.mem_cons.1 hp with e1|h1
     ·rcases List.mem_cons.1 hq with e2|h2
      ·rw[e1,e2]
      ·exact(hn.1 (List.mem_map.2 ⟨q,h2,by rw[← e1];exact e.symm⟩)).elim
     ·rcases List.mem_cons.1 hq with e2|h2
      ·exact(hn.1 (List.mem_map.2 ⟨p,h1,by rw[← e2];exact e⟩)).elim
      ·exact ih hn.2 p q h1 h2 e
   have:=key _ hn1 _ _ hp hp' rfl
   simpa using this
theorem home_cls (O:c.Ok){i:Nat}(h:i < c.n)(hf:c.fx i=false):Cls c (c.home i):=(one_cls O (.first O h hf)).1
theorem key_is {i:Nat}(hf:c.fx i=false):c.key i≤i∧c.fx (c.key i)=false∧c.home (c.key i)=c.home i∧ ∀k < c.key i,c.fx k=false→c.home k≠c.home i:=by
 unfold Cfg.key
 cases e:(List.range i).find? fun k=> !c.fx k && decide (c.home k=c.home i) with
 |none=>
  refine⟨Nat.le_refl _,hf,rfl,fun k hk h1 h2=> ?_⟩
  have:=List.find?_eq_none.1 e k (List.mem_range.2 hk)
  simp[h1,h2] at this
 |some v=>
  have h1:=List.find?_some e
  simp only[Bool.and_eq_true,Bool.not_eq_true',decide_eq_true_eq] at h1
  obtain⟨-,pa,pb,h2,h3⟩:=List.find?_eq_some_iff_append.1 e
  have hv:v < i:=List.mem_range.1 (by rw[h2];simp)
  refine⟨Nat.le_of_lt hv,h1.1,h1.2,fun k hk g1 g2=> ?_⟩
  replace hk:k < v:=hk
  have hlen:pa.length=v:=by
   have e1:(List.range i)[pa.length]?=some v:=by rw[h2];simp
   have hlt:=(List.getElem?_eq_some_iff.1 e1).1
   rw[List.length_range] at hlt
   rw[List.getElem?_range hlt] at e1
   exact Option.some.inj e1
  have hka:k∈pa:=by
   have e1:(List.range i)[k]?=pa[k]?:=by rw[h2,List.getElem?_append_left (by omega)]
   rw[List.getElem?_range (by omega)] at e1
   exact List.mem_of_getElem? e1.symm
  have:=h3 k hka
  simp[g1,g2] at this
theorem key_uniq {i k:Nat}(hf:c.fx i=false)(_:k≤i)(h2:c.fx k=false)(h3:c.home k=c.home i)(h4: ∀j < k,c.fx j=false→c.home j≠c.home i):c.key i=k:=by
 obtain⟨g1,g2,g3,g4⟩:=key_is (c:=c) hf
 rcases Nat.lt_trichotomy (c.key i) k with e|e|e
 ·exact absurd g3 (h4 _ e g2)
 ·exact e
 ·exact absurd h3 (g4 _ e h2)
theorem key_same {i j:Nat}(hi:c.fx i=false)(hj:c.fx j=false)(h:c.home i=c.home j):c.key i=c.key j:=by
 obtain⟨g1,g2,g3,g4⟩:=key_is (c:=c) hi
 obtain⟨k1,k2,k3,k4⟩:=key_is (c:=c) hj
 rcases Nat.lt_trichotomy (c.key i) (c.key j) with e|e|e
 ·exact absurd (g3.trans h) (k4 _ e g2)
 ·exact e
 ·exact absurd (k3.trans h.symm) (g4 _ e k2)
theorem lead_iff {i:Nat}:c.lead i=true↔c.fx i=false∧ ∀k < i,c.fx k=false→c.home k≠c.home i:=by
 unfold Cfg.lead
 simp only[Bool.and_eq_true,Bool.not_eq_true',List.all_eq_true,List.mem_range,Bool.or_eq_true,decide_eq_false_iff_not]
 refine and_congr Iff.rfl ⟨fun h k hk hf=> ?_,fun h k hk=> ?_⟩
 ·rcases h k hk with e|e
  ·rw[hf] at e;cases e
  ·exact e
 ·cases e:c.fx k with
  |true=>exact .inl rfl
  |false=>exact .inr (h k hk e)
theorem lead_key {i:Nat}(hf:c.fx i=false):c.lead (c.key i)=true:=by
 obtain⟨g1,g2,g3,g4⟩:=key_is (c:=c) hf
 exact lead_iff.2 ⟨g2,fun k hk h1=>by rw[g3];exact g4 k hk h1⟩
theorem key_lead {i:Nat}(h:c.lead i=true):c.key i=i:=key_uniq (lead_iff.1 h).1 (Nat.le_refl _) (lead_iff.1 h).1 rfl (lead_iff.1 h).2
theorem cnt_next (i:Nat):c.cnt (i+1)=c.cnt i+if c.lead i=true then 1 else 0:=by
 unfold Cfg.cnt
 rw[List.range_succ,List.filter_append,List.length_append]
 congr 1
 cases e:c.lead i <;> simp[e]
theorem cnt_mono {i j:Nat}(h:i≤j):c.cnt i≤c.cnt j:=by
 induction h with
 |refl=>exact Nat.le_refl _
 |step _ ih=>rw[cnt_next];omega
theorem cnt_lt {i j:Nat}(h:i < j)(hl:c.lead i=true):c.cnt i < c.cnt j:=by
 have:=cnt_mono (c:=c) (show i+1≤j from h)
 rw[cnt_next,if_pos hl] at this
 omega
theorem num_lt {i j:Nat}(hf:c.fx i=false)(h:i < j):c.num i < c.cnt j:=cnt_lt (Nat.lt_of_le_of_lt (key_is hf).1 h) (lead_key hf)
theorem num_same {i j:Nat}(hi:c.fx i=false)(hj:c.fx j=false):c.num i=c.num j↔c.home i=c.home j:=by
 constructor
 ·intro h
  have:c.key i=c.key j:=by
   rcases Nat.lt_trichotomy (c.key i) (c.key j) with e|e|e
   ·have:=cnt_lt e (lead_key hi);unfold Cfg.num at h;omega
   ·exact e
   ·have:=cnt_lt e (lead_key hj);unfold Cfg.num at h;omega
  rw[← (key_is (c:=c) hi).2.2.1, ← (key_is (c:=c) hj).2.2.1,this]
 ·intro h
  unfold Cfg.num
  rw[key_same hi hj h]
theorem num_new {i:Nat}(h:c.lead i=true):c.num i=c.cnt i:=by unfold Cfg.num;rw[key_lead h]
theorem num_all: ∀{j v:Nat},v < c.cnt j→ ∃i < j,c.fx i=false∧c.num i=v∧c.lead i=true
 |0,v,h=>by simp[Cfg.cnt] at h
 |j+1,v,h=>by
  rw[cnt_next] at h
  by_cases e:v < c.cnt j
  ·obtain⟨i,h1,h2⟩:=num_all e
   exact⟨i,by omega,h2⟩
  ·cases hl:c.lead j with
   |false=>rw[hl] at h;simp at h;omega
   |true=>
    rw[hl] at h
    simp at h
    exact⟨j,by omega,(lead_iff.1 hl).1,by rw[num_new hl];omega,hl⟩
theorem seat_some {but v:Nat}: ∀{j i:Nat},c.seat but v j=some i→i < j∧c.fx i=false∧c.sd i≠but∧c.num i=v
 |0,i,h=>by cases h
 |j+1,i,h=>by
  unfold Cfg.seat at h
  split at h
  ·rename_i e
   have h:=Option.some.inj h
   subst h
   simp only[Bool.and_eq_true,Bool.not_eq_true',decide_eq_false_iff_not,decide_eq_true_eq] at e
   exact⟨Nat.lt_succ_self _,e⟩
  ·have:=seat_some h
   exact⟨by omega,this.2⟩
theorem seat_has {but v:Nat}: ∀{j i:Nat},i < j→c.fx i=false→c.sd i≠but→c.num i=v→ ∃k,c.seat but v j=some k
 |0,i,h,_,_,_=>by omega
 |j+1,i,h,h1,h2,h3=>by
  unfold Cfg.seat
  split
  ·exact⟨j,rfl⟩
  ·rename_i e
   by_cases e1:i=j
   ·subst e1
    rw[h1,h3] at e
    simp[h2] at e
   ·exact seat_has (by omega) h1 h2 h3
theorem seat_none {but v j i:Nat}(h:c.seat but v j=none)(hi:i < j)(hf:c.fx i=false)(hv:c.num i=v):c.sd i=but:=by
 by_cases e:c.sd i=but
 ·exact e
 ·obtain⟨k,hk⟩:=seat_has hi hf e hv
  rw[h] at hk
  cases hk
end
end Go.Proofs.YtmejhedegmjboaaGreat.PaC
