/- The document's variables: a list, in their order, and which is which. No condition. -/
/- Of a sense, what may be one: its classes as data. No condition. -/
import Derived.Test.YtmejhedegmjboaaGreatPaC
import Derived.Test.YtmejhedegmjboaaGreatPaV
import Derived.Test.YtmejhedegmjboaaGreatRwF
import Derived.Test.YtmejhedegmjboaaGreatRwO
namespace Go.Proofs.YtmejhedegmjboaaGreat.PaC
def optZ (o:Option Nat):Int:=match o with
 |some u=>(u:Int)
 |none=> -1
namespace Cfg
variable (c:Cfg)
end Cfg
section
variable {c:Cfg}
variable (O:c.Ok)
end
end Go.Proofs.YtmejhedegmjboaaGreat.PaC
namespace Go.Proofs.YtmejhedegmjboaaGreat.I
open PaM PaC
def soB (z:Sen)(i j:Nat):Bool:=decide (hg z i=hg z j) && (List.range z.p.length).all fun k=>bb z i k==bb z j k
def siB (z:Sen)(i j:Nat):Bool:=decide (lw z i=lw z j) && (List.range z.p.length).all fun k=>bb z k i==bb z k j
def fitsB (S:Bo.Sr)(z:Sen)(d k:Nat):Bool:=S.below (hg z k) (hg z d) && (List.range z.p.length).all fun m=> !bb z d m||bb z k m
def leadsB (S:Bo.Sr)(z:Sen)(d u:Nat):Bool:=bb z d u && (S.below (lw z u) (hg z d) && (List.range z.p.length).all fun m=> !bb z d m||S.below (lw z u) (lw z m))
def mayB (S:Bo.Sr)(z:Sen)(d u:Nat):Bool:=leadsB S z d u && (List.range z.p.length).all fun k=> !bb z k u||fitsB S z d k
noncomputable def cfg (S:Bo.Sr) (z:Sen):Cfg:=⟨z.p.length,first z,fixB S z,sd z,soB z,siB z,mayB S z⟩
theorem all_rng {n:Nat}{f:Nat→Bool}:(List.range n).all f=true↔ ∀k < n,f k=true:=by
 rw[List.all_eq_true]
 exact⟨fun h k hk=>h k (List.mem_range.2 hk),fun h k hk=>h k (List.mem_range.1 hk)⟩
theorem soB_iff {z:Sen}{i j:Nat}:soB z i j=true↔hg z i=hg z j∧ ∀k < z.p.length,bb z i k=bb z j k:=by
 unfold soB
 rw[Bool.and_eq_true,decide_eq_true_eq,all_rng]
 simp
theorem siB_iff {z:Sen}{i j:Nat}:siB z i j=true↔lw z i=lw z j∧ ∀k < z.p.length,bb z k i=bb z k j:=by
 unfold siB
 rw[Bool.and_eq_true,decide_eq_true_eq,all_rng]
 simp
theorem imp_iff {a b:Bool}:(!a||b)=true↔(a=true→b=true):=by cases a <;> simp
theorem mayB_iff {S:Bo.Sr}{z:Sen}{d u:Nat}:mayB S z d u=true↔
  bb z d u=true∧S.below (lw z u) (hg z d)=true∧(∀k < z.p.length,∀m < z.p.length,bb z k u=true→bb z d m=true→bb z k m=true)∧(∀m < z.p.length,bb z d m=true→S.below (lw z u) (lw z m)=true)∧ ∀k < z.p.length,bb z k u=true→S.below (hg z k) (hg z d)=true:=by
 unfold mayB leadsB fitsB
 simp only[Bool.and_eq_true,all_rng,imp_iff]
 constructor
 ·rintro⟨⟨h1,h2,h3⟩,h4⟩
  exact⟨h1,h2,fun k hk m hm a b=>(h4 k hk a).2 m hm b,h3,fun k hk a=>(h4 k hk a).1⟩
 ·rintro⟨h1,h2,h3,h4,h5⟩
  exact⟨⟨h1,h2,h4⟩,fun k hk a=>⟨h5 k hk a,fun m hm b=>h3 k hk m hm a b⟩⟩
theorem bb_out {z:Sen}(hw:wholeS z=true){i j:Nat}(h:z.p.length≤i∨z.p.length≤j):bb z i j=false:=by
 obtain⟨-,-,a3,-,a5⟩:=whole_iff.1 hw
 unfold bb
 rw[List.getD_eq_getElem?_getD,List.getD_eq_getElem?_getD]
 by_cases hi:i < z.be.length
 ·rw[List.getElem?_eq_getElem hi,Option.getD_some]
  have:=a5 _ (List.getElem_mem hi)
  rw[List.getElem?_eq_none (show z.be[i].length≤j by omega)]
  rfl
 ·rw[List.getElem?_eq_none (show z.be.length≤i by omega)]
  rfl
theorem first_eq {z:Sen}{i j:Nat}(hi:okA z i=true)(hj:okA z j=true)(h:Look z i j):first z i=first z j:=by
 rcases Nat.lt_trichotomy i j with e|e|e
 ·exact(first_same hj hi h e).symm
 ·rw[e]
 ·exact first_same hi hj h.symm e
theorem first_idem {z:Sen}{i:Nat}:first z (first z i)=first z i:=by
 by_cases ho:okA z i=true
 ·have h:=first_is ho
  have k:=first_is h.ok
  rcases Nat.lt_or_ge (first z (first z i)) (first z i) with hlt|hge
  ·exact absurd (k.look.trans h.look) (h.least _ hlt k.ok)
  ·exact Nat.le_antisymm k.le hge
 ·have e:=first_no (Bool.not_eq_true _▸ho)
  rw[e,e]
theorem look_first (z:Sen)(i:Nat):Look z i (first z i):=by
 by_cases ho:okA z i=true
 ·exact(first_is ho).look.symm
 ·have e:=first_no (Bool.not_eq_true _▸ho)
  rw[e]
  exact Look.refl _ _
theorem sd_le {z:Sen}(hw:wholeS z=true)(i:Nat)(h:i < z.p.length):sd z i≤2:=by
 obtain⟨-,-,-,a4,-⟩:=whole_iff.1 hw
 rw[sd_at h]
 exact a4 _ (List.getElem_mem h)
theorem ok_of {z:Sen}{i:Nat}(h:sd z i≠2):okA z i=true:=by unfold okA;simp[h]
theorem cfg_ok {S:Bo.Sr}{z:Sen}(hw:wholeS z=true):(cfg S z).Ok where
 le:=first_le z
 idem _:=first_idem
 fxf i _:=(fix_look (look_first z i)).1.symm
 sdf i _:=(look_first z i).1.symm
 soS i j h:=by
  have h:=soB_iff.1 h
  exact soB_iff.2 ⟨h.1.symm,fun k hk=>(h.2 k hk).symm⟩
 siS i j h:=by
  have h:=siB_iff.1 h
  exact siB_iff.2 ⟨h.1.symm,fun k hk=>(h.2 k hk).symm⟩
 soT i j k h g:=by
  have h:=soB_iff.1 h
  have g:=soB_iff.1 g
  exact soB_iff.2 ⟨h.1.trans g.1,fun k hk=>(h.2 k hk).trans (g.2 k hk)⟩
 siT i j k h g:=by
  have h:=siB_iff.1 h
  have g:=siB_iff.1 g
  exact siB_iff.2 ⟨h.1.trans g.1,fun k hk=>(h.2 k hk).trans (g.2 k hk)⟩
 soU i j _ _ hi hj h:=by
  have h:=soB_iff.1 h
  have hi:sd z i=1:=hi
  have hj:sd z j=1:=hj
  exact first_eq (ok_of (by omega)) (ok_of (by omega)) ⟨hi.trans hj.symm,fun e=>absurd hi e,fun _=>h⟩
 siU i j _ _ hi hj h:=by
  have h:=siB_iff.1 h
  have hi:sd z i=0:=hi
  have hj:sd z j=0:=hj
  exact first_eq (ok_of (by omega)) (ok_of (by omega)) ⟨hi.trans hj.symm,fun _=>h,fun e=>absurd hi e⟩
 soF i _ h:=soB_iff.2 ((look_first z i).2.2 h)
 siF i _ h:=siB_iff.2 ((look_first z i).2.1 h)
 sd2:=sd_le hw
theorem cfg_mean {S:Bo.Sr}{z:Sen}(hw:wholeS z=true):Mean (cfg S z) (lw z) (hg z) (bb z) (fun a b=>S.below a b=true) where
 so i j _ _:=by
  refine soB_iff.trans ⟨fun h=>⟨fun k=> ?_,h.1⟩,fun h=>⟨h.2,fun k _=>h.1 k⟩⟩
  by_cases hk:k < z.p.length
  ·exact h.2 k hk
  ·rw[bb_out hw (.inr (by omega)),bb_out hw (.inr (by omega))]
 si i j _ _:=by
  refine siB_iff.trans ⟨fun h=>⟨fun k=> ?_,h.1⟩,fun h=>⟨h.2,fun k _=>h.1 k⟩⟩
  by_cases hk:k < z.p.length
  ·exact h.2 k hk
  ·rw[bb_out hw (.inl (by omega)),bb_out hw (.inl (by omega))]
 fit d u hd hu:=by
  refine mayB_iff.trans ⟨fun ⟨h1,h2,h3,h4,h5⟩=>⟨h1,h2,fun k m a b=> ?_,fun m b=> ?_,fun k a=> ?_⟩,fun h=>⟨h.at',h.lohi,fun k _ m _ a b=>h.on k m a b,fun m _ b=>h.low m b,fun k _ a=>h.high k a⟩⟩
  ·by_cases hk:k < z.p.length
   ·by_cases hm:m < z.p.length
    ·exact h3 k hk m hm a b
    ·rw[bb_out hw (.inr (by omega))] at b;cases b
   ·rw[bb_out hw (.inl (by omega))] at a;cases a
  ·by_cases hm:m < z.p.length
   ·exact h4 m hm b
   ·rw[bb_out hw (.inr (by omega))] at b;cases b
  ·by_cases hk:k < z.p.length
   ·exact h5 k hk a
   ·rw[bb_out hw (.inl (by omega))] at a;cases a
noncomputable def trm (S:Bo.Sr) (z:Sen) (i:Nat):Tm:=if fixB S z i=true then(false,(valF z i:Int)) else(true,((cfg S z).num i:Int))
noncomputable def trmL (S:Bo.Sr) (z:Sen):List Tm:=if wholeS z=true then(List.range z.p.length).map (trm S z) else []
noncomputable def trmN (S:Bo.Sr) (z:Sen):Nat:=if wholeS z=true then(cfg S z).vars else 0
noncomputable def undB (S:Bo.Sr) (z:Sen) (v w:Nat):Bool:= !decide (v=w) && match (cfg S z).out v,(cfg S z).inn w with
 |some d,some u=>bb z d u && !S.below (hg z d) (lw z u)
 |_,_=>false
noncomputable def covB (S:Bo.Sr) (z:Sen) (m v w:Nat):Bool:=undB S z v w && !(List.range m).any fun t=>undB S z v t && undB S z t w
noncomputable def lowBd (S:Bo.Sr) (z:Sen) (v:Nat):List Bo.Bd:=match (cfg S z).inn v with
 |some u=>if lw z u=S.bot then [] else [⟨false,lw z u,true,v⟩]
 |none=> []
noncomputable def highBd (S:Bo.Sr) (z:Sen) (v:Nat):List Bo.Bd:=match (cfg S z).out v with
 |some d=>if hg z d=S.top then [] else [⟨true,v,false,hg z d⟩]
 |none=> []
noncomputable def covBd (S:Bo.Sr) (z:Sen) (m v j:Nat):List Bo.Bd:=((List.range j).filter (covB S z m v)).map fun w=>⟨true,v,true,w⟩
noncomputable def bdsV (S:Bo.Sr) (z:Sen) (m v:Nat):List Bo.Bd:=lowBd S z v++(highBd S z v++covBd S z m v m)
noncomputable def bdsF (S:Bo.Sr) (z:Sen) (m j:Nat):List Bo.Bd:=(List.range j).flatMap (bdsV S z m)
noncomputable def bds (S:Bo.Sr) (z:Sen):List Bo.Bd:=bdsF S z (trmN S z) (trmN S z)
end Go.Proofs.YtmejhedegmjboaaGreat.I
