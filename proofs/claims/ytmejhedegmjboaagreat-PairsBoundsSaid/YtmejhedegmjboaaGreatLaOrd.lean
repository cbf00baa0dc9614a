import Derived.Test.YtmejhedegmjboaaGreatProg
import Derived.Laws.BitsAllLaws
import Derived.Laws.ShiftsVar
import Derived.WalkKit
import Derived.OwnWalk
import Derived.Outline
import Derived.Laws.MakeOwn
import Derived.StillTailTactics
import Derived.Laws.ShiftsVarLaws
import Derived.Deep.QuietTactic
import Derived.BigQuiet
import Derived.Test.YtmejhedegmjboaaGreatRange
set_option maxRecDepth 100000
set_option maxHeartbeats 400000
namespace Go.Proofs.YtmejhedegmjboaaGreat.La
def bt (l:List Nat)(i j:Nat):Bool:=(l.getD i 0).testBit j
def mk (f:Nat→Bool):Nat→Nat
 |0=>0
 |n+1=>if f n then mk f n|||2 ^ n else mk f n
theorem QZ (f:Nat→Bool): ∀n j,(mk f n).testBit j=(decide (j < n) && f j)
 |0,j=>by simp[mk]
 |n+1,j=>by(
 unfold mk
 by_cases h:f n=true
 ·(
 rw[if_pos h,Nat.testBit_or,QZ f n j,Nat.testBit_two_pow]
 by_cases e:n=j
 ·subst e
  simp[h]
 ·have e1:decide (n=j)=false:=by simpa using e
  have e2:decide (j < n+1)=decide (j < n):=decide_eq_decide.2 (by omega)
  rw[e1,e2,Bool.or_false])
 ·(
 rw[if_neg h,QZ f n j]
 by_cases e:n=j
 ·subst e
  simp[h]
 ·have e2:decide (j < n+1)=decide (j < n):=decide_eq_decide.2 (by omega)
  rw[e2]))
theorem ZeT (f:Nat→Bool): ∀n,mk f n < 2 ^ n
 |0=>by simp[mk]
 |n+1=>by(
 have h:=ZeT f n
 have h2:2 ^ n < 2 ^ (n+1):=Nat.pow_lt_pow_right (by decide) (by omega)
 unfold mk
 split
 ·exact Nat.or_lt_two_pow (by omega) h2
 ·omega)
theorem ZdJ {x n:Nat}(h: ∀j,n≤j→x.testBit j=false):x < 2 ^ n:=Nat.lt_pow_two_of_testBit x h
theorem Q3 {x n j:Nat}(h:x < 2 ^ n)(hj:n≤j):x.testBit j=false:=Nat.testBit_lt_two_pow (Nat.lt_of_lt_of_le h (Nat.pow_le_pow_right (by decide) hj))
theorem ZdK {l:List Nat}{i j:Nat}(h:bt l i j=true):i < l.length:=by
 rcases Nat.lt_or_ge i l.length with h'|h'
 ·exact h'
 ·rw[bt,List.getD_eq_getElem?_getD,List.getElem?_eq_none h'] at h
  simp at h
theorem Q5 {l:List Nat}{i:Nat}(h:i < l.length)(j:Nat):bt l i j=l[i].testBit j:=by
 rw[bt,List.getD_eq_getElem?_getD,List.getElem?_eq_getElem h]
 rfl
def Small (l:List Nat):Prop:= ∀i j,l.length≤j→bt l i j=false
def Known (l:List Nat):Prop:=(1≤l.length∧l.length≤64)∧Small l
structure Ux (n:Nat)(R:Nat→Nat→Bool):Prop where
 refl: ∀i,i < n→R i i=true
 anti: ∀i j,i < n→j < n→R i j=true→R j i=true→i=j
 on: ∀i j k,i < n→j < n→k < n→R i j=true→R j k=true→R i k=true
def Ups (n:Nat)(R:Nat→Nat→Bool):Prop:=
 ∀a b,a < n→b < n→ ∃c,c < n∧R a c=true∧R b c=true∧ ∀d,d < n→R a d=true→R b d=true→R c d=true
def turn (R:Nat→Nat→Bool):Nat→Nat→Bool:=fun i j=>R j i
def Uy (l:List Nat)(e:Int):Prop:=
 (¬Known l∧e=1)∨(Known l∧ ¬Ux l.length (bt l)∧e=9)∨(Known l∧Ux l.length (bt l)∧ ¬(Ups l.length (bt l)∧Ups l.length (turn (bt l)))∧e=7)∨
  (Known l∧Ux l.length (bt l)∧(Ups l.length (bt l)∧Ups l.length (turn (bt l)))∧e=0)
theorem Uy.uniq {l:List Nat}{e f:Int}(h:Uy l e)(k:Uy l f):e=f:=by
 rcases h with⟨a,rfl⟩|⟨a,b,rfl⟩|⟨a,b,c,rfl⟩|⟨a,b,c,rfl⟩ <;> rcases k with⟨a',rfl⟩|⟨a',b',rfl⟩|⟨a',b',c',rfl⟩|⟨a',b',c',rfl⟩ <;>
  first
   |rfl
   |exact absurd a' a
   |exact absurd a a'
   |exact absurd b' b
   |exact absurd b b'
   |exact absurd c' c
   |exact absurd c c'
theorem Ux.congr {n:Nat}{R R':Nat→Nat→Bool}(h:Ux n R)(e: ∀i j,i < n→j < n→R' i j=R i j):Ux n R':=by
 refine⟨fun i hi=>(e i i hi hi).trans (h.refl i hi),fun i j hi hj h1 h2=>h.anti i j hi hj ?_ ?_,fun i j k hi hj hk h1 h2=>(e i k hi hk).trans (h.on i j k hi hj hk ?_ ?_)⟩
 ·rw[← e i j hi hj];exact h1
 ·rw[← e j i hj hi];exact h2
 ·rw[← e i j hi hj];exact h1
 ·rw[← e j k hj hk];exact h2
theorem Ups.congr {n:Nat}{R R':Nat→Nat→Bool}(h:Ups n R)(e: ∀i j,i < n→j < n→R' i j=R i j):Ups n R':=by
 intro a b ha hb
 obtain⟨c,hc,h1,h2,h3⟩:=h a b ha hb
 refine⟨c,hc,(e a c ha hc).trans h1,(e b c hb hc).trans h2,fun d hd g1 g2=>(e c d hc hd).trans (h3 d hd ?_ ?_)⟩
 ·rw[← e a d ha hd];exact g1
 ·rw[← e b d hb hd];exact g2
theorem Ux.turn {n:Nat}{R:Nat→Nat→Bool}(h:Ux n R):Ux n (turn R):=
 ⟨h.refl,fun i j hi hj h1 h2=>h.anti i j hi hj h2 h1,fun i j k hi hj hk h1 h2=>h.on k j i hk hj hi h2 h1⟩
def Zo (l:List Nat):List Nat:=(List.range l.length).map fun x=>mk (fun i=>bt l i x) l.length
theorem Zq (l:List Nat):(Zo l).length=l.length:=by simp[Zo]
theorem Vy (l:List Nat)(i j:Nat):bt (Zo l) i j=(decide (i < l.length) && bt l j i):=by
 by_cases h:i < l.length
 ·(
 rw[Q5 (by rw[Zq];exact h)]
 simp only[Zo,List.getElem_map,List.getElem_range,QZ,h,decide_true,Bool.true_and]
 by_cases hj:j < l.length
 ·simp[hj]
 ·have:bt l j i=false:=by
   cases hb:bt l j i with
   |false=>rfl
   |true=>exact absurd (ZdK hb) hj
  simp[this])
 ·have:bt (Zo l) i j=false:=by
   cases hb:bt (Zo l) i j with
   |false=>rfl
   |true=>exact absurd (by have:=ZdK hb;rwa [Zq] at this) h
  simp[this,h]
def Z4 (l:List Nat)(t:Nat):Nat→Nat
 |0=>t
 |k+1=>if t.testBit k then Z4 l t k|||l.getD k 0 else Z4 l t k
theorem YE (l:List Nat)(t:Nat): ∀k j,(Z4 l t k).testBit j=true↔t.testBit j=true∨ ∃i,i < k∧t.testBit i=true∧bt l i j=true
 |0,j=>by simp[Z4]
 |k+1,j=>by(
 have ih:=YE l t k j
 unfold Z4
 by_cases h:t.testBit k=true
 ·(
 rw[if_pos h,Nat.testBit_or,Bool.or_eq_true,ih]
 constructor
 ·rintro((h1|⟨i,h1,h2,h3⟩)|h1)
  ·exact .inl h1
  ·exact .inr ⟨i,by omega,h2,h3⟩
  ·exact .inr ⟨k,by omega,h,h1⟩
 ·(
 rintro(h1|⟨i,h1,h2,h3⟩)
 ·exact .inl (.inl h1)
 ·by_cases e:i=k
  ·subst e
   exact .inr h3
  ·exact .inl (.inr ⟨i,by omega,h2,h3⟩)))
 ·(
 rw[if_neg h,ih]
 constructor
 ·rintro(h1|⟨i,h1,h2,h3⟩)
  ·exact .inl h1
  ·exact .inr ⟨i,by omega,h2,h3⟩
 ·(
 rintro(h1|⟨i,h1,h2,h3⟩)
 ·exact .inl h1
 ·by_cases e:i=k
  ·subst e
   exact absurd h2 h
  ·exact .inr ⟨i,by omega,h2,h3⟩)))
theorem ZeU {l:List Nat}{t m:Nat}(ht:t < 2 ^ m)(hl: ∀x∈l,x < 2 ^ m)(k:Nat):Z4 l t k < 2 ^ m:=by
 induction k with
 |zero=>exact ht
 |succ k ih=>(
 unfold Z4
 split
 ·(
 refine Nat.or_lt_two_pow ih ?_
 rw[List.getD_eq_getElem?_getD]
 rcases Nat.lt_or_ge k l.length with h|h
 ·rw[List.getElem?_eq_getElem h]
  exact hl _ (List.getElem_mem h)
 ·rw[List.getElem?_eq_none h]
  exact Nat.two_pow_pos m)
 ·exact ih)
theorem KW (l:List Nat)(i:Nat):Z4 l (l.getD i 0) l.length=l.getD i 0↔ ∀j k,bt l i j=true→bt l j k=true→bt l i k=true:=by
 constructor
 ·intro e j k h1 h2
  show(l.getD i 0).testBit k=true
  rw[← e,YE]
  exact .inr ⟨j,ZdK h2,h1,h2⟩
 ·(
 intro h
 apply Nat.eq_of_testBit_eq
 intro j
 rw[Bool.eq_iff_iff,YE]
 constructor
 ·rintro(h1|⟨k,_,h2,h3⟩)
  ·exact h1
  ·exact h k j h2 h3
 ·exact .inl)
def Vg (l:List Nat)(k:Nat):Bool:=(List.range k).all fun i=>(l.getD i 0 &&& (Zo l).getD i 0==2 ^ i) && (Z4 l (l.getD i 0) l.length==l.getD i 0)
theorem Zaa (l:List Nat)(k:Nat):Vg l (k+1)=(Vg l k && ((l.getD k 0 &&& (Zo l).getD k 0==2 ^ k) && (Z4 l (l.getD k 0) l.length==l.getD k 0))):=by
 simp[Vg,List.range_succ]
theorem Y5 {l:List Nat}(hs:Small l):Vg l l.length=true↔Ux l.length (bt l):=by
 have hj: ∀{i j},bt l i j=true→j < l.length:=fun {i j} h=>by(
 rcases Nat.lt_or_ge j l.length with h'|h'
 ·exact h'
 ·rw[hs i j h'] at h;cases h)
 have key: ∀i,i < l.length→(l.getD i 0 &&& (Zo l).getD i 0=2 ^ i↔(bt l i i=true∧ ∀j,bt l i j=true→bt l j i=true→i=j)):=by(
 intro i hi
 have hbit: ∀j,(l.getD i 0 &&& (Zo l).getD i 0).testBit j=(bt l i j && bt l j i):=by(
 intro j
 rw[Nat.testBit_and]
 show(bt l i j && bt (Zo l) i j)=_
 rw[Vy,decide_eq_true hi,Bool.true_and])
 constructor
 ·(
 intro e
 refine⟨?_,fun j h1 h2=> ?_⟩
 ·have:=hbit i
  rw[e,Nat.testBit_two_pow] at this
  simpa using this.symm
 ·have:=hbit j
  rw[e,Nat.testBit_two_pow,h1,h2] at this
  simpa using this)
 ·(
 rintro⟨h1,h2⟩
 apply Nat.eq_of_testBit_eq
 intro j
 rw[hbit,Nat.testBit_two_pow,Bool.eq_iff_iff,Bool.and_eq_true,decide_eq_true_iff]
 constructor
 ·rintro⟨h3,h4⟩
  exact h2 j h3 h4
 ·rintro rfl
  exact⟨h1,h1⟩))
 simp only[Vg,List.all_eq_true,List.mem_range,Bool.and_eq_true,beq_iff_eq]
 constructor
 ·intro h
  refine⟨fun i hi=>((key i hi).1 (h i hi).1).1,fun i j hi _ h1 h2=>((key i hi).1 (h i hi).1).2 j h1 h2,fun i j k hi _ _ h1 h2=>(KW l i).1 (h i hi).2 j k h1 h2⟩
 ·intro h i hi
  exact⟨(key i hi).2 ⟨h.refl i hi,fun j h1 h2=>h.anti i j hi (hj h1) h1 h2⟩,(KW l i).2 fun j k h1 h2=>h.on i j k hi (hj h1) (hj h2) h1 h2⟩
def leastOf (l:List Nat)(t i:Nat):Bool:=t.testBit i && (t ^^^ (t &&& l.getD i 0)==0)
theorem ZeV {t r:Nat}(ht:t < 2 ^ 64)(hr:r < 2 ^ 64):t &&& (2 ^ 64 - 1 - r)=t ^^^ (t &&& r):=by
 apply Nat.eq_of_testBit_eq
 intro j
 have h:=Nat.testBit_two_pow_sub_succ (x:=r) (n:=64) hr j
 rw[Nat.testBit_and,Nat.testBit_xor,Nat.testBit_and,show 2 ^ 64 - 1 - r=2 ^ 64 - (r+1) by omega,h]
 by_cases hj:j < 64
 ·rw[decide_eq_true hj,Bool.true_and]
  cases t.testBit j <;> cases r.testBit j <;> rfl
 ·rw[Q3 ht (by omega),Bool.false_and,Bool.false_and,Bool.xor_false]
def ZM (l:List Nat)(t k:Nat):Bool:=(List.range k).any fun i=>leastOf l t i
theorem QT (l:List Nat)(t k:Nat):ZM l t (k+1)=(ZM l t k||leastOf l t k):=by
 simp[ZM,List.range_succ]
theorem ZbM (l:List Nat)(t i:Nat):leastOf l t i=true↔t.testBit i=true∧ ∀j,t.testBit j=true→bt l i j=true:=by
 have:t ^^^ (t &&& l.getD i 0)=0↔ ∀j,t.testBit j=true→bt l i j=true:=by(
 constructor
 ·(
 intro e j hj
 have:=congrArg (·.testBit j) e
 simp only[Nat.testBit_xor,Nat.testBit_and,Nat.zero_testBit,hj,Bool.true_and] at this
 show(l.getD i 0).testBit j=true
 cases hb:(l.getD i 0).testBit j with
 |true=>rfl
 |false=>rw[hb] at this;cases this)
 ·(
 intro h
 apply Nat.eq_of_testBit_eq
 intro j
 rw[Nat.testBit_xor,Nat.testBit_and,Nat.zero_testBit]
 cases hj:t.testBit j with
 |false=>rfl
 |true=>(
 have:=h j hj
 rw[show(l.getD i 0).testBit j=true from this]
 rfl)))
 simp only[leastOf,Bool.and_eq_true,beq_iff_eq,this]
theorem ZaP (l:List Nat)(t:Nat):ZM l t l.length=true↔ ∃c,c < l.length∧t.testBit c=true∧ ∀j,t.testBit j=true→bt l c j=true:=by
 simp only[ZM,List.any_eq_true,List.mem_range,ZbM]
def Ub (l:List Nat)(i j:Nat):Bool:=(List.range j).all fun x=>ZM l (l.getD i 0 &&& l.getD x 0) l.length
def Vh (l:List Nat)(k:Nat):Bool:=(List.range k).all fun i=>Ub l i i
theorem ZaQ (l:List Nat)(i j:Nat):Ub l i (j+1)=(Ub l i j && ZM l (l.getD i 0 &&& l.getD j 0) l.length):=by
 simp[Ub,List.range_succ]
theorem ZaR (l:List Nat)(k:Nat):Vh l (k+1)=(Vh l k && Ub l k k):=by
 simp[Vh,List.range_succ]
theorem Q7 {l:List Nat}(hs:Small l)(ho:Ux l.length (bt l)):Vh l l.length=true↔Ups l.length (bt l):=by
 have hj: ∀{i j},bt l i j=true→j < l.length:=fun {i j} h=>by(
 rcases Nat.lt_or_ge j l.length with h'|h'
 ·exact h'
 ·rw[hs i j h'] at h;cases h)
 have hb: ∀a b j,(l.getD a 0 &&& l.getD b 0).testBit j=true↔bt l a j=true∧bt l b j=true:=fun a b j=>by
  rw[Nat.testBit_and,Bool.and_eq_true];rfl
 simp only[Vh,Ub,List.all_eq_true,List.mem_range,ZaP,hb]
 constructor
 ·(
 intro h a b ha hb'
 rcases Nat.lt_trichotomy a b with h1|rfl|h1
 ·obtain⟨c,hc,⟨g1,g2⟩,g3⟩:=h b hb' a h1
  exact⟨c,hc,g2,g1,fun d hd k1 k2=>g3 d ⟨k2,k1⟩⟩
 ·exact⟨a,ha,ho.refl a ha,ho.refl a ha,fun d _ k1 _=>k1⟩
 ·obtain⟨c,hc,⟨g1,g2⟩,g3⟩:=h a ha b h1
  exact⟨c,hc,g1,g2,fun d hd k1 k2=>g3 d ⟨k1,k2⟩⟩)
 ·intro h a ha b hb'
  obtain⟨c,hc,g1,g2,g3⟩:=h a b ha (by omega)
  exact⟨c,hc,⟨g1,g2⟩,fun d k=>g3 d (hj k.1) k.1 k.2⟩
def Uz (l:List Nat)(k:Nat):Bool:=(List.range k).all fun i=>l.getD i 0 / 2 ^ l.length==0
theorem KX (l:List Nat)(k:Nat):Uz l (k+1)=(Uz l k && (l.getD k 0 / 2 ^ l.length==0)):=by
 simp[Uz,List.range_succ]
def U3 (l:List Nat):Bool:=decide (1≤l.length∧l.length≤64) && Uz l l.length
theorem KY (l:List Nat):Uz l l.length=true↔Small l:=by
 simp only[Uz,List.all_eq_true,List.mem_range,beq_iff_eq]
 constructor
 ·(
 intro h i j hj
 cases hb:bt l i j with
 |false=>rfl
 |true=>(
 have h1:=h i (ZdK hb)
 have h2:l.getD i 0 < 2 ^ l.length:=by(
 rcases Nat.lt_or_ge (l.getD i 0) (2 ^ l.length) with h'|h'
 ·exact h'
 ·have:=Nat.div_pos h' (Nat.two_pow_pos l.length)
  omega)
 rw[← hb]
 exact Q3 h2 hj))
 ·intro h i _
  exact Nat.div_eq_of_lt (ZdJ fun j hj=>h i j hj)
theorem YF (l:List Nat):U3 l=true↔Known l:=by
 simp only[U3,Bool.and_eq_true,decide_eq_true_iff,KY,Known]
def checkN (l:List Nat):Int:=
 if U3 l=true then
  if Vg l l.length=true then
   if Vh l l.length=true∧Vh (Zo l) l.length=true then 0 else 7
  else 9
 else 1
theorem ZaS {l:List Nat}:Small (Zo l):=by
 intro i j hj
 rw[Zq] at hj
 rw[Vy]
 have:bt l j i=false:=by(
 cases hb:bt l j i with
 |false=>rfl
 |true=>have:=ZdK hb;omega)
 rw[this,Bool.and_false]
theorem Zab {l:List Nat}(ho:Ux l.length (bt l)):Vh (Zo l) l.length=true↔Ups l.length (turn (bt l)):=by
 have e: ∀i j,i < l.length→j < l.length→bt (Zo l) i j=turn (bt l) i j:=fun i j hi _=>by
  rw[Vy,decide_eq_true hi,Bool.true_and]
  rfl
 have h:=Q7 (l:=Zo l) ZaS (by rw[Zq];exact ho.turn.congr e)
 rw[Zq] at h
 rw[h]
 exact⟨fun h=>h.congr fun i j hi hj=>(e i j hi hj).symm,fun h=>h.congr e⟩
theorem ZaT (l:List Nat):Uy l (checkN l):=by
 unfold checkN Uy
 by_cases hk:U3 l=true
 ·(
 have hk':=(YF l).1 hk
 rw[if_pos hk]
 by_cases ho:Vg l l.length=true
 ·(
 have ho':=(Y5 hk'.2).1 ho
 have hj:=(Q7 hk'.2 ho')
 have ht:=Zab ho'
 rw[if_pos ho]
 by_cases hu:Ups l.length (bt l)∧Ups l.length (turn (bt l))
 ·rw[if_pos ⟨hj.2 hu.1,ht.2 hu.2⟩]
  exact .inr (.inr (.inr ⟨hk',ho',hu,rfl⟩))
 ·rw[if_neg (fun g=>hu ⟨hj.1 g.1,ht.1 g.2⟩)]
  exact .inr (.inr (.inl ⟨hk',ho',hu,rfl⟩)))
 ·rw[if_neg ho]
  exact .inr (.inl ⟨hk',fun h=>ho ((Y5 hk'.2).2 h),rfl⟩))
 ·rw[if_neg hk]
  exact .inl ⟨fun h=>hk ((YF l).2 h),rfl⟩
theorem ZaU {l:List Nat}{e:Int}(h:Uy l e):e=checkN l:=h.uniq (ZaT l)
end Go.Proofs.YtmejhedegmjboaaGreat.La
namespace Go.Proofs.YtmejhedegmjboaaGreat.La
theorem Zlu {l:List Nat}{k:Nat}(hk:k < l.length)(v i j:Nat):bt (l.set k v) i j=if i=k then v.testBit j else bt l i j:=by
 by_cases e:i=k
 ·subst e
  rw[if_pos rfl,Q5 (by rw[List.length_set];exact hk),List.getElem_set_self]
 ·rw[if_neg e,bt,bt,List.getD_eq_getElem?_getD,List.getD_eq_getElem?_getD,List.getElem?_set_ne (fun h=>e h.symm)]
theorem getD_mem {l:List Nat}{k:Nat}(h:k < l.length):l.getD k 0∈l:=by
 rw[List.getD_eq_getElem?_getD,List.getElem?_eq_getElem h]
 exact List.getElem_mem h
def stepW (l:List Nat)(k i:Nat):List Nat:=(List.range l.length).map fun x=>if x < i∧bt l x k=true then l.getD x 0|||l.getD k 0 else l.getD x 0
theorem Vj (l:List Nat)(k i:Nat):(stepW l k i).length=l.length:=by simp[stepW]
theorem ZaV (l:List Nat)(k i x:Nat)(hx:x < l.length):(stepW l k i).getD x 0=if x < i∧bt l x k=true then l.getD x 0|||l.getD k 0 else l.getD x 0:=by
 rw[List.getD_eq_getElem?_getD,List.getElem?_eq_getElem (by rw[Vj];exact hx)]
 simp only[stepW,List.getElem_map,List.getElem_range,Option.getD_some]
theorem UA {l:List Nat}{x:Nat}(h: ¬x < l.length):l.getD x 0=0:=by
 rw[List.getD_eq_getElem?_getD,List.getElem?_eq_none (by omega)]
 rfl
theorem ZdL (l:List Nat)(k i:Nat):(stepW l k i).getD k 0=l.getD k 0:=by
 by_cases hk:k < l.length
 ·rw[ZaV l k i k hk]
  split
  ·exact Nat.or_self _
  ·rfl
 ·rw[UA hk,UA (by rw[Vj];exact hk)]
theorem ZdM (l:List Nat)(k i:Nat)(hi:i < l.length):stepW l k (i+1)=if ((stepW l k i).getD i 0).testBit k then(stepW l k i).set i ((stepW l k i).getD i 0|||(stepW l k i).getD k 0) else stepW l k i:=by
 have e0:(stepW l k i).getD i 0=l.getD i 0:=by
  rw[ZaV l k i i hi,if_neg (fun h=>absurd h.1 (by omega))]
 rw[ZdL,e0]
 apply List.ext_getElem?
 intro x
 by_cases hx:x < l.length
 ·(
 have a1:(stepW l k (i+1))[x]?=some (if x < i+1∧bt l x k=true then l.getD x 0|||l.getD k 0 else l.getD x 0):=by simp[stepW,hx]
 have a2:(stepW l k i)[x]?=some (if x < i∧bt l x k=true then l.getD x 0|||l.getD k 0 else l.getD x 0):=by simp[stepW,hx]
 by_cases e:x=i
 ·subst e
  by_cases h:bt l x k=true
  ·rw[if_pos (show(l.getD x 0).testBit k=true from h),List.getElem?_set_self (by rw[Vj];exact hx),a1,if_pos ⟨by omega,h⟩]
  ·rw[if_neg (show ¬(l.getD x 0).testBit k=true from h),a1,a2,if_neg (fun g=>h g.2),if_neg (fun g=>h g.2)]
 ·(
 have e3:(x < i+1∧bt l x k=true)↔(x < i∧bt l x k=true):=⟨fun h=>⟨by omega,h.2⟩,fun h=>⟨by omega,h.2⟩⟩
 have a3:(stepW l k (i+1))[x]?=(stepW l k i)[x]?:=by(
 rw[a1,a2]
 by_cases h:x < i∧bt l x k=true
 ·rw[if_pos h,if_pos (e3.2 h)]
 ·rw[if_neg h,if_neg (fun g=>h (e3.1 g))])
 rw[a3]
 split
 ·rw[List.getElem?_set_ne (by omega)]
 ·rfl))
 ·rw[List.getElem?_eq_none (by rw[Vj];omega)]
  split
  ·rw[List.getElem?_eq_none (by rw[List.length_set,Vj];omega)]
  ·rw[List.getElem?_eq_none (by rw[Vj];omega)]
theorem ZdN (l:List Nat)(k:Nat):stepW l k 0=l:=by
 apply List.ext_getElem?
 intro x
 by_cases hx:x < l.length
 ·simp[stepW,hx,List.getD_eq_getElem?_getD]
 ·rw[List.getElem?_eq_none (by rw[Vj];omega),List.getElem?_eq_none (by omega)]
end Go.Proofs.YtmejhedegmjboaaGreat.La
namespace Go.Proofs.YtmejhedegmjboaaGreat.La
open Go.RowKit
def nm (x:Nat):Value:= .int .u64 (x:Int)
theorem ZaW (x:Nat):(nm x).oneCell'=true:=rfl
def cl (l:List Nat):Array Value:=(l.map nm).toArray
theorem Uc {l:List Nat}{j:Nat}(h:j < l.length):(cl l)[j]?=some (.int .u64 (l[j]:Int)):=by
 rw[cl,List.getElem?_toArray,List.getElem?_map,List.getElem?_eq_getElem h]
 rfl
theorem Q8 (l:List Nat)(j v:Nat):(cl l).setIfInBounds j (.int .u64 (v:Int))=cl (l.set j v):=by
 simp[cl,List.map_set,nm]
def Fit (l:List Nat):Prop:= ∀x∈l,x < 18446744073709551616
theorem Fit.get {l:List Nat}(h:Fit l)(i:Nat)(hi:i < l.length):l[i] < 18446744073709551616:=h _ (List.getElem_mem hi)
theorem ZeW (x k:Nat):(x / 2 ^ k%2:Nat)=(x.testBit k).toNat:=by
 rw[Nat.testBit_eq_decide_div_mod_eq]
 rcases Nat.mod_two_eq_zero_or_one (x / 2 ^ k) with h|h <;> rw[h] <;> rfl
theorem ZbN (x k:Nat):(x:Int) / 2 ^ k=((x / 2 ^ k:Nat):Int):=by
 rw[Int.natCast_ediv,Int.natCast_pow]
 rfl
theorem ZjL {x k:Nat}(hx:x < 18446744073709551616):x / 2 ^ min k 64=x / 2 ^ k:=by
 by_cases h:k≤64
 ·rw[Nat.min_eq_left h]
 ·rw[Nat.min_eq_right (by omega),Nat.div_eq_of_lt (show x < 2 ^ 64 from hx),Nat.div_eq_of_lt]
  exact Nat.lt_of_lt_of_le (show x < 2 ^ 64 from hx) (Nat.pow_le_pow_right (by decide) (by omega))
theorem ZjM {x k:Nat}(hx:x < 18446744073709551616):(x:Int) / 2 ^ min k 64=((x / 2 ^ k:Nat):Int):=by
 rw[ZbN,ZjL hx]
theorem ZeX {x k:Nat}(hx:x < 18446744073709551616):bits .and .u64 ((x:Int) / 2 ^ min k 64) 1=((x.testBit k).toNat:Int):=by
 rw[ZjM hx, ← ZeW, ← Nat.and_one_is_mod]
 exact u64_and_nat _ 1 (Nat.lt_of_le_of_lt (Nat.div_le_self _ _) hx) (by decide)
theorem ZiZ {x k:Nat}(hx:x < 18446744073709551616):(bits .and .u64 ((x:Int) / 2 ^ min k 64) 1==1)=x.testBit k:=by
 rw[ZeX hx]
 cases x.testBit k <;> rfl
theorem VP (x k:Nat)(w:World)(hx:x < 18446744073709551616):
  Calls Tryz.prog 99 #[.int .u64 (x:Int),.int .i64 (k:Int)] w fun e w'=>e= .returned (.bool (x.testBit k))∧w=w':=by
 go_enter Tryz.func99,Tryz.ntmps99
 go_wp2
 go_ret
 exact⟨by rw[← ZiZ hx];rfl,rfl⟩
theorem YG (n:Int)(w:World):Calls Tryz.prog 138 #[.int .i64 n] w fun e w'=>e= .returned (.bool (decide (1≤n∧n≤64)))∧w=w':=by
 by_cases h1:1≤n
 ·(
 have hd1:decide (1≤n)=true:=by simpa using h1
 by_cases h2:n≤64
 ·go_enter Tryz.func138,Tryz.ntmps138
  go_wp2
  go_ret
  exact⟨by simp[h1,h2],rfl⟩
 ·go_enter Tryz.func138,Tryz.ntmps138
  go_wp2
  go_ret
  exact⟨by simp[h2],rfl⟩)
 ·(
 have hd1:decide (1≤n)=false:=by simpa using h1
 go_enter Tryz.func138,Tryz.ntmps138
 go_wp2
 go_ret
 exact⟨by simp,rfl⟩)
def ZmD (l:List Nat)(t:Nat)(w:World)(v5 v10:Value)(wr:World):Prop:= ∃k:Nat,v10= .int .i64 (k:Int)∧k≤l.length∧v5= .int .u64 (Z4 l t k:Int)∧wr=w
theorem Fit.two {l:List Nat}(h:Fit l): ∀x∈l,x < 2 ^ 64:=h
theorem ZeY (A:Option Addr)(n c B:Nat)(l:List Nat)(t:Nat)(w:World)(h:Rd nm w B A n c l)(hf:Fit l)(ht:t < 18446744073709551616):
  Calls Tryz.prog 139 #[.slice A n c,.int .u64 (t:Int)] w fun e w'=>e= .returned (.int .u64 (Z4 l t n:Int))∧w=w':=by
 have HL:=Hd h.len
 have hcap:=h.cap
 have htop:=h.top
 unfold maxLen at htop
 go_enter Tryz.func139,Tryz.ntmps139
 go_wp2
 go_loopw [5,10] (fun v5 v10 wr=>ZmD l t w v5 v10 wr) (fun _ v10 _=>n - (intOf v10).toNat)
 case atStart=>exact⟨0,rfl,by omega,rfl,rfl⟩
 case round=>(
 obtain⟨k,rfl,hk,rfl,rfl⟩:=hrel
 by_cases hlt:k < n
 ·(
 obtain⟨b,o,rfl,_,hc⟩:=h.spot (by omega)
 have hk':k < l.length:=by rw[HL.out];exact hlt
 have hcell:wr.cell? ⟨b,o+k,none⟩=some (.int .u64 (l[k]:Int)):=hc k hk'
 have hx:=hf.get k hk'
 have ha:Z4 l t k < 18446744073709551616:=ZeU ht hf.two k
 have hn:Z4 l t (k+1)=if t.testBit k then Z4 l t k|||l[k] else Z4 l t k:=by
  rw[Z4,List.getD_eq_getElem?_getD,List.getElem?_eq_getElem hk']
  rfl
 have ho:=u64_or_nat _ _ ha hx
 generalize Z4 l t k=y at*
 generalize l[k]=x at*
 have HN:=Hd hn
 clear hn hc
 cases hb:t.testBit k with
 |true=>(
 have HB:=Hd hb
 have hcall:=VP t k wr ht
 rw[hb] at hcall
 clear hb
 go_wp2_with (go_at_call 99;refine hcall.mono ?_;rintro e w' ⟨rfl,rfl⟩)
 go_roundw
 case rel=>exact⟨k+1,by go_num,by omega,by rw[HN.out,HB.out];rfl,rfl⟩
 case measure=>simp[intOf];omega)
 |false=>(
 have HB:=Hd hb
 have hcall:=VP t k wr ht
 rw[hb] at hcall
 clear hb
 go_wp2_with (go_at_call 99;refine hcall.mono ?_;rintro e w' ⟨rfl,rfl⟩)
 go_roundw
 case rel=>exact⟨k+1,by go_num,by omega,by rw[HN.out,HB.out];rfl,rfl⟩
 case measure=>simp[intOf];omega))
 ·obtain rfl:k=n:=by have:=HL.out;omega
  go_wp2
  go_ret
  exact⟨rfl,rfl⟩)
end Go.Proofs.YtmejhedegmjboaaGreat.La
namespace Go.Proofs.YtmejhedegmjboaaGreat.La
open Go.RowKit
theorem ZaX:(Tryz.prog.info? 60).map (fun i=>(i.zero,i.size,i.bytes))=some (some (.int .u64 0),1,8):=by kernel_rfl
theorem ZjN (n:Nat):madeCells #[.int .u64 0] n=cl (List.replicate n 0):=by
 apply Array.ext
 ·simp[madeCells,cl]
 ·intro i h1 h2
  simp[madeCells,nm,cl,Nat.mod_one]
theorem Zac (n:Nat)(h:n≤1000000)(W:World):(Instr.makeSlice 22 (.int .i64 (n:Int)) (.int .i64 (n:Int))).run Tryz.prog W= .ok (.slice (some ⟨W.heap.size,0,none⟩) n n) (W.alloc (.cells (cl (List.replicate n 0)) 60)):=by
 obtain⟨i0,hi0,hz0,hz1,hz2⟩:=info_parts ZaX
 have:=run_make (P:=Tryz.prog) W 22 60 i0 _ Tryz.underlying22 hi0 hz0 .i64 .i64 n n (by omega) (Int.le_refl _) (by rw[hz2];omega) (by omega)
 rw[this,hz1,Nat.mul_one,Int.toNat_natCast]
 rw[show(Value.int IntKind.u64 0).cells= #[.int .u64 0] from rfl,ZjN]
theorem Ud {k:Nat}(h:k < 64):IntKind.u64.wrap ((2:Int) ^ k)=((2 ^ k:Nat):Int):=by
 have h1:(2:Nat) ^ k < 18446744073709551616:=Nat.pow_lt_pow_right (n:=64) (by decide) h
 show(2:Int) ^ k%18446744073709551616=_
 rw[Int.natCast_pow]
 have:((2 ^ k:Nat):Int) < 18446744073709551616:=by omega
 rw[Int.natCast_pow] at this
 exact Int.emod_eq_of_lt (Int.le_of_lt (Int.pow_pos (by decide))) this
theorem below_drewN (w:World)(q:Nat){B:Nat}:Below B w (w.drewN q):=⟨rfl,rfl,rfl,Nat.le_refl _,fun _ _=>rfl⟩
theorem Vb (w:World){B:Nat}:Below B w w.drew:=⟨rfl,rfl,rfl,Nat.le_refl _,fun _ _=>rfl⟩
def Drawn (w wr:World):Prop:= ∃q,wr=w.drewN q
theorem Drawn.refl (w:World):Drawn w w:=⟨0,rfl⟩
theorem Drawn.more {w wr:World}(h:Drawn w wr)(n:Nat):Drawn w (wr.drewN n):=by
 obtain⟨q,rfl⟩:=h
 exact⟨q+n,by simp[World.drewN,Nat.add_assoc]⟩
theorem Drawn.heap {w wr:World}(h:Drawn w wr):wr.heap=w.heap:=by
 obtain⟨q,rfl⟩:=h
 rfl
theorem Drawn.cell {w wr:World}(h:Drawn w wr)(p:Addr):wr.cell? p=w.cell? p:=by
 obtain⟨q,rfl⟩:=h
 rfl
theorem Drawn.below {w wr:World}(h:Drawn w wr){B:Nat}:Below B w wr:=by
 obtain⟨q,rfl⟩:=h
 exact below_drewN _ _
def ZR (l:List Nat)(i j:Nat):List Nat:=(List.range l.length).map fun x=>mk (fun y=>bt l y x) (if x < j then i+1 else i)
theorem Qa (l:List Nat)(i j:Nat):(ZR l i j).length=l.length:=by simp[ZR]
theorem Q9 (l:List Nat):ZR l 0 0=List.replicate l.length 0:=by
 apply List.ext_getElem (by simp[ZR])
 intro x h1 h2
 simp[ZR,mk]
theorem ZaY (l:List Nat)(i:Nat):ZR l i l.length=ZR l (i+1) 0:=by
 apply List.ext_getElem (by simp[ZR])
 intro x h1 h2
 have:x < l.length:=by simpa [ZR] using h1
 simp[ZR,this]
theorem ZaZ (l:List Nat):ZR l l.length 0=Zo l:=by
 simp[ZR,Zo]
theorem UC (l:List Nat)(i j x:Nat)(h:x < (ZR l i j).length):(ZR l i j)[x]=mk (fun y=>bt l y x) (if x < j then i+1 else i):=by
 simp[ZR]
theorem ZcG (l:List Nat)(i j:Nat)(h:bt l i j=false):ZR l i (j+1)=ZR l i j:=by
 apply List.ext_getElem (by simp[ZR])
 intro x h1 h2
 rw[UC,UC]
 by_cases e:x=j
 ·subst e
  simp[mk,h]
 ·have:(x < j+1)=(x < j):=propext ⟨fun h=>by omega,fun h=>by omega⟩
  simp only[this]
theorem Za0 (l:List Nat)(i j:Nat)(hj:j < (ZR l i j).length)(h:bt l i j=true):ZR l i (j+1)=(ZR l i j).set j ((ZR l i j)[j]|||2 ^ i):=by
 apply List.ext_getElem (by simp[ZR])
 intro x h1 h2
 rw[UC]
 by_cases e:x=j
 ·subst e
  rw[List.getElem_set_self,UC]
  simp[mk,h]
 ·have:(x < j+1)=(x < j):=propext ⟨fun h=>by omega,fun h=>by omega⟩
  rw[List.getElem_set_ne (by omega),UC]
  simp only[this]
theorem Qb (l:List Nat)(i j:Nat)(hi:i < 64):Fit (ZR l i j):=by
 intro y hy
 obtain⟨x,_,rfl⟩:=List.mem_map.1 hy
 refine Nat.lt_of_lt_of_le (ZeT _ _) ?_
 show _≤2 ^ 64
 exact Nat.pow_le_pow_right (by decide) (by split <;> omega)
def ZmE (l:List Nat)(w:World)(v12:Value)(wr:World):Prop:=
 ∃i:Nat,v12= .int .i64 (i:Int)∧i≤l.length∧wr.heap[w.heap.size]?=some (.cells (cl (ZR l i 0)) 60 (0,0))∧Below w.heap.size w wr
def TuIn (l:List Nat)(w:World)(i:Nat)(v19:Value)(wr:World):Prop:=
 ∃j:Nat,v19= .int .i64 (j:Int)∧j≤l.length∧wr.heap[w.heap.size]?=some (.cells (cl (ZR l i j)) 60 (0,0))∧Below w.heap.size w wr
theorem Vd (A:Option Addr)(n c:Nat)(l:List Nat)(w:World)(h:Rd nm w w.heap.size A n c l)(hf:Fit l)(hn:n≤64):
  Calls Tryz.prog 98 #[.slice A n c] w fun e w'=>e= .returned (.slice (some ⟨w.heap.size,0,none⟩) n n)∧w'.heap[w.heap.size]?=some (.cells (cl (Zo l)) 60 (0,0))∧Below w.heap.size w w':=by
 have HL:=Hd h.len
 have hmk:=Zac n (by omega)
 go_enter Tryz.func98,Tryz.ntmps98
 go_wp2
 go_loopw [12] (fun v12 wr=>ZmE l w v12 wr) (fun v12 _=>n - (intOf v12).toNat)
 case atStart=>exact⟨0,rfl,by omega,by rw[Q9,HL.out];exact heap_alloc_new _ _,bA⟩
 case round=>(
 obtain⟨i,rfl,hi,hblk,hb⟩:=hrel
 have HB:=Hd hblk
 clear hblk hmk
 by_cases hlt:i < n
 ·(
 obtain⟨b,o,rfl,hbb,hc⟩:=h.spot (by omega)
 have hi':i < l.length:=by rw[HL.out];exact hlt
 have hcell:wr.cell? ⟨b,o+i,none⟩=some (.int .u64 (l[i]:Int)):=(hb.cell (p:=⟨b,o+i,none⟩) hbb).trans (hc i hi')
 have hx:=hf.get i hi'
 have hbt: ∀j,bt l i j=l[i].testBit j:=Q5 hi'
 have HT:=Hd hbt
 clear hc hbt
 generalize l[i]=x at*
 go_wp2
 go_loopw [19] (fun v19 wr=>TuIn l w i v19 wr) (fun v19 _=>n - (intOf v19).toNat)
 case atStart=>exact⟨0,rfl,by omega,HB.out,hb⟩
 case round=>(
 obtain⟨j,rfl,hj,hblk,hb2⟩:=hrel
 clear hcell hb HB
 by_cases hlt2:j < n
 ·(
 have hcall:=VP x j wr hx
 have hp:=Ud (k:=i) (by omega)
 have hlen:j < (ZR l i j).length:=by rw[Qa,HL.out];exact hlt2
 have hcj:=(Zb (i:=j) hblk).trans (Uc hlen)
 have hfz:wr.frozen? ⟨w.heap.size,j,none⟩=false:=Zc hblk
 have hyes:=Za0 l i j hlen
 have hfit:=(Qb l i j (by omega)).get j hlen
 generalize (ZR l i j)[j]=y at*
 have HBK:=Hd hblk
 have HY:=Hd hyes
 have hor:=u64_or_nat y (2 ^ i) hfit (by exact Nat.pow_lt_pow_right (n:=64) (by decide) (by omega))
 clear hblk hyes
 generalize 2 ^ i=p at*
 cases hbit:x.testBit j with
 |true=>(
 rw[hbit] at hcall
 have HBIT:=Hd hbit
 clear hbit
 go_wp2_with (go_at_call 99;refine hcall.mono ?_;rintro e w' ⟨rfl,rfl⟩)
 go_still_tail 7,(by kernel_rfl)
 change wpList _ _ _ _ _ wr.drew
 have hcj':wr.drew.cell? ⟨w.heap.size,j,none⟩=some (.int .u64 (y:Int)):=hcj
 have hfz':wr.drew.frozen? ⟨w.heap.size,j,none⟩=false:=hfz
 have hb3:Below w.heap.size w wr.drew:=hb2.trans (Vb wr)
 have HBK':Hid (wr.drew.heap[w.heap.size]?=some (.cells (cl (ZR l i j)) 60 (0,0))):=HBK
 clear hcj hfz HBK hb2 hcall
 generalize wr.drew=w3 at*
 go_wp2
 go_roundw
 case rel=>exact⟨j+1,by go_num,by have:=HL.out;omega,by rw[Zm HBK'.out,Q8,HY.out (by rw[HT.out,HBIT.out])],hb3.setCell (p:=⟨w.heap.size,j,none⟩) lR _⟩
 case measure=>simp[intOf];omega)
 |false=>(
 rw[hbit] at hcall
 have HBIT:=Hd hbit
 clear hbit
 go_wp2_with (go_at_call 99;refine hcall.mono ?_;rintro e w' ⟨rfl,rfl⟩)
 go_roundw
 case rel=>exact⟨j+1,by go_num,by have:=HL.out;omega,by rw[ZcG l i j (by rw[HT.out,HBIT.out])];exact HBK.out,hb2⟩
 case measure=>simp[intOf];omega))
 ·(
 obtain rfl:j=n:=by have:=HL.out;omega
 have HB2:=Hd hblk
 clear hblk
 go_wp2
 go_roundw
 case rel=>exact⟨i+1,by go_num,by have:=HL.out;omega,by rw[← ZaY,HL.out];exact HB2.out,hb2⟩
 case measure=>simp[intOf];omega)))
 ·obtain rfl:i=n:=by have:=HL.out;omega
  go_wp2
  go_ret
  exact⟨rfl,by have:=HB.out;rwa [← HL.out,ZaZ] at this,hb⟩)
end Go.Proofs.YtmejhedegmjboaaGreat.La
namespace Go.Proofs.YtmejhedegmjboaaGreat.La
open Go.RowKit
theorem ZX {p:Nat→Bool}{n i:Nat}(hi:i < n)(h:p i=false):(List.range n).all p=false:=by
 rw[List.all_eq_false]
 exact⟨i,List.mem_range.2 hi,by simp[h]⟩
theorem KF {p:Nat→Bool}{n i:Nat}(hi:i < n)(h:p i=true):(List.range n).any p=true:=by
 rw[List.any_eq_true]
 exact⟨i,List.mem_range.2 hi,h⟩
theorem getD_at {l:List Nat}{k:Nat}(h:k < l.length):l.getD k 0=l[k]:=by
 rw[List.getD_eq_getElem?_getD,List.getElem?_eq_getElem h]
 rfl
theorem Rf {w:World}{g n:Nat}{l:List Nat}(h:w.heap[g]?=some (.cells (cl l) 60 (0,0)))(hl:l.length=n)(hn:n≤1000000):Rd nm w w.heap.size (some ⟨g,0,none⟩) n n l:=
 ⟨hl,Nat.le_refl _,by unfold maxLen;omega,(fun h=>by cases h),fun _=>⟨g,0,rfl,Zh h,fun j hj=>by rw[Nat.zero_add,Zb h,Uc hj];rfl⟩⟩
def ZmF (l:List Nat)(w:World)(v11:Value)(wr:World):Prop:= ∃k:Nat,v11= .int .i64 (k:Int)∧k≤l.length∧Uz l k=true∧wr=w
theorem ZeZ (A:Option Addr)(n c B:Nat)(l:List Nat)(w:World)(h:Rd nm w B A n c l)(hf:Fit l):
  Calls Tryz.prog 95 #[.slice A n c] w fun e w'=>e= .returned (.bool (U3 l))∧w=w':=by
 have HL:=Hd h.len
 have hcap:=h.cap
 have htop:=h.top
 unfold maxLen at htop
 have hlab:=YG (n:Int) w
 by_cases h64:1≤n∧n≤64
 ·(
 rw[decide_eq_true (by omega)] at hlab
 have HN:Hid (U3 l=Uz l n):=by
  refine Hd ?_
  rw[U3,HL.out,decide_eq_true h64,Bool.true_and]
 go_enter Tryz.func95,Tryz.ntmps95
 go_wp2_with (go_at_call 138;refine hlab.mono ?_;rintro e w' ⟨rfl,rfl⟩)
 go_loopw [11] (fun v11 wr=>ZmF l w v11 wr) (fun v11 _=>n - (intOf v11).toNat)
 case atStart=>exact⟨0,rfl,by omega,rfl,rfl⟩
 case round=>(
 obtain⟨k,rfl,hk,hkn,rfl⟩:=hrel
 have HK:=Hd hkn
 clear hkn
 by_cases hlt:k < n
 ·(
 obtain⟨b,o,rfl,_,hc⟩:=h.spot (by omega)
 have hk':k < l.length:=by rw[HL.out];exact hlt
 have hcell:wr.cell? ⟨b,o+k,none⟩=some (.int .u64 (l[k]:Int)):=hc k hk'
 have hx:=hf.get k hk'
 have hs:=KX l k
 rw[HK.out,Bool.true_and,getD_at hk',HL.out] at hs
 have hq:(l[k]:Int) / 2 ^ n=((l[k] / 2 ^ n:Nat):Int):=ZbN _ _
 have hfalse:(l[k] / 2 ^ n==0)=false→Uz l n=false:=fun e=>ZX hlt (by rw[getD_at hk',HL.out];exact e)
 generalize l[k] / 2 ^ n=q at*
 generalize l[k]=x at*
 have HS:=Hd hs
 have HF:=Hd hfalse
 clear hc hs hfalse
 by_cases hq0:q=0
 ·(
 subst hq0
 go_wp2
 go_roundw
 case rel=>exact⟨k+1,by go_num,by omega,HS.out,rfl⟩
 case measure=>simp[intOf];omega)
 ·have hne:((q:Int) !=0)=true:=by simpa using hq0
  go_wp2
  go_ret
  exact⟨by rw[HN.out,HF.out (by simpa using hq0)];rfl,rfl⟩)
 ·obtain rfl:k=n:=by have:=HL.out;omega
  go_wp2
  go_ret
  exact⟨by rw[HN.out,HK.out];rfl,rfl⟩))
 ·(
 rw[decide_eq_false (by omega)] at hlab
 have HN:Hid (U3 l=false):=by
  refine Hd ?_
  rw[U3,HL.out,decide_eq_false h64,Bool.false_and]
 go_enter Tryz.func95,Tryz.ntmps95
 go_wp2_with (go_at_call 138;refine hlab.mono ?_;rintro e w' ⟨rfl,rfl⟩)
 go_ret
 exact⟨by rw[HN.out];rfl,rfl⟩)
theorem ZjO (A:Option Addr)(n c B:Nat)(l:List Nat)(t y:Nat)(w:World)(h:Rd nm w B A n c l)(hf:Fit l)(ht:t < 18446744073709551616)(hy:Z4 l t n=y):
  Calls Tryz.prog 139 #[.slice A n c,.int .u64 (t:Int)] w fun e w'=>e= .returned (.int .u64 (y:Int))∧w'=w:=
 hy▸(ZeY A n c B l t w h hf ht).mono fun _ _ ⟨he,hw⟩=>⟨he,hw.symm⟩
def ZmG (l:List Nat)(w:World)(v10:Value)(wr:World):Prop:=
 ∃i:Nat,v10= .int .i64 (i:Int)∧i≤l.length∧Vg l i=true∧wr.heap[w.heap.size]?=some (.cells (cl (Zo l)) 60 (0,0))∧Below w.heap.size w wr
theorem YH {l:List Nat}(h:l.length≤64):Fit (Zo l):=by
 intro y hy
 obtain⟨x,_,rfl⟩:=List.mem_map.1 hy
 refine Nat.lt_of_lt_of_le (ZeT _ _) ?_
 show _≤2 ^ 64
 exact Nat.pow_le_pow_right (by decide) h
theorem U6 (A:Option Addr)(n c:Nat)(l:List Nat)(w:World)(h:Rd nm w w.heap.size A n c l)(hf:Fit l)(hn:n≤64):
  Calls Tryz.prog 96 #[.slice A n c] w fun e w'=>e= .returned (.bool (Vg l n))∧Below w.heap.size w w':=by
 have HL:=Hd h.len
 have hcap:=h.cap
 have htop:=h.top
 unfold maxLen at htop
 go_enter Tryz.func96,Tryz.ntmps96
 go_wp2_with fail
 refine(Vd A n c l w h hf hn).mono ?_
 rintro e w1 ⟨rfl,hblk1,hb1⟩
 have HB1:=Hd hblk1
 clear hblk1
 go_wp2
 go_loopw [10] (fun v10 wr=>ZmG l w v10 wr) (fun v10 _=>n - (intOf v10).toNat)
 case atStart=>exact⟨0,rfl,by omega,rfl,HB1.out,hb1⟩
 case round=>(
 obtain⟨i,rfl,hi,hord,hblk,hb⟩:=hrel
 have HO:=Hd hord
 clear hord
 by_cases hlt:i < n
 ·(
 have hr:=h.below hb
 have hi':i < l.length:=by rw[HL.out];exact hlt
 have hs:=Zaa l i
 have hlen:i < (Zo l).length:=by rw[Zq];exact hi'
 rw[HO.out,Bool.true_and,getD_at hi',getD_at hlen,HL.out] at hs
 have hx:=hf.get i hi'
 have hy:=(YH (by have:=HL.out;omega)).get i hlen
 have hfalse:((l[i] &&& (Zo l)[i]==2 ^ i) && (Z4 l l[i] n==l[i]))=false→Vg l n=false:=fun e=>ZX hlt (by rw[getD_at hi',getD_at hlen,HL.out];exact e)
 have hcy:=(Zb (i:=i) hblk).trans (Uc hlen)
 obtain⟨b,o,rfl,hbb,hc⟩:=hr.spot (by omega)
 have hcx:wr.cell? ⟨b,o+i,none⟩=some (.int .u64 (l[i]:Int)):=hc i hi'
 have hp:=Ud (k:=i) (by omega)
 have hand:=u64_and_nat l[i] (Zo l)[i] hx hy
 have hab: ∀w',(∀k,k < w.heap.size→w'.heap[k]?=wr.heap[k]?)→Calls Tryz.prog 139 #[.slice (some ⟨b,o,none⟩) n c,.int .u64 (l[i]:Int)] w' fun e w2=>e= .returned (.int .u64 (Z4 l l[i] n:Int))∧w2=w':=fun w' hk=>ZjO _ n c w.heap.size l _ _ w' (hr.keep hk) hf hx rfl
 generalize l[i] &&& (Zo l)[i]=z at*
 generalize (Zo l)[i]=y at*
 generalize Z4 l l[i] n=u at*
 generalize l[i]=x at*
 generalize 2 ^ i=p at*
 have HS:=Hd hs
 have HF:=Hd hfalse
 have HBK:=Hd hblk
 have HA:=Hd hab
 clear hc hs hfalse hblk hr hab
 by_cases hz:z=p
 ·(
 subst hz
 have hne:((z:Int) !=(z:Int))=false:=by simp
 by_cases hu:u=x
 ·(
 subst hu
 have hne2:((u:Int) !=(u:Int))=false:=by simp
 go_wp2
 go_quiet ((go_at_call 139;exact Calls.quiet_of_same (HA.out _ (fun _ _=>rfl))))
 go_wp2
 go_roundw
 case rel=>exact⟨i+1,by go_num,by omega,by rw[HS.out];simp,HBK.out,hb.trans (by first|exact below_drewN _ _|exact Vb _)⟩
 case measure=>simp[intOf];omega)
 ·(
 have hne2:((u:Int) !=(x:Int))=true:=by simp;omega
 go_wp2
 go_quiet ((go_at_call 139;exact Calls.quiet_of_same (HA.out _ (fun _ _=>rfl))))
 go_wp2
 go_ret
 exact⟨by rw[HF.out (by simp[hu])];rfl,hb.trans (by first|exact below_drewN _ _|exact Vb _)⟩))
 ·(
 have hne:((z:Int) !=(p:Int))=true:=by simp;omega
 go_wp2
 go_quiet ((go_at_call 139;exact Calls.quiet_of_same (HA.out _ (fun _ _=>rfl))))
 go_wp2
 go_ret
 exact⟨by rw[HF.out (by simp[hz])];rfl,hb.trans (by first|exact below_drewN _ _|exact Vb _)⟩))
 ·obtain rfl:i=n:=by have:=HL.out;omega
  go_wp2
  go_ret
  exact⟨by rw[HO.out];rfl,hb⟩)
end Go.Proofs.YtmejhedegmjboaaGreat.La
namespace Go.Proofs.YtmejhedegmjboaaGreat.La
open Go.RowKit
def Zj (l:List Nat)(a b:Nat):Bool:=decide (a < 64∧b < 64∧a < l.length∧b < l.length) && bt l a b
theorem Za1 {l:List Nat}{a b:Nat}(h: ¬(a < 64∧b < 64∧a < l.length∧b < l.length)):Zj l a b=false:=by
 rw[Zj,decide_eq_false h,Bool.false_and]
theorem Rh {l:List Nat}{a b:Nat}(h:a < 64∧b < 64∧a < l.length∧b < l.length):Zj l a b=l[a].testBit b:=by
 rw[Zj,decide_eq_true h,Bool.true_and,Q5 h.2.2.1]
theorem VW (A:Option Addr)(n c B:Nat)(l:List Nat)(a b:Nat)(w:World)(h:Rd nm w B A n c l)(hf:Fit l)(ha:a < 18446744073709551616)(hb:b < 18446744073709551616):
  Calls Tryz.prog 58 #[.slice A n c,.int .u64 (a:Int),.int .u64 (b:Int)] w fun e w'=>e= .returned (.bool (Zj l a b))∧w=w':=by
 have HL:=Hd h.len
 have hcap:=h.cap
 have htop:=h.top
 unfold maxLen at htop
 have HN:Hid (¬(a < 64∧b < 64∧a < n∧b < n)→Zj l a b=false):=Hd fun hn=>Za1 (by rw[HL.out];exact hn)
 by_cases h1:a < 64
 ·(
 by_cases h2:b < 64
 ·(
 by_cases h3:a < n
 ·(
 by_cases h4:b < n
 ·(
 obtain⟨bk,o,rfl,_,hc⟩:=h.spot (by omega)
 have ha':a < l.length:=by rw[HL.out];exact h3
 have HE:=Hd (Rh (l:=l) ⟨h1,h2,ha',by rw[HL.out];exact h4⟩)
 have hcell:w.cell? ⟨bk,o+a,none⟩=some (.int .u64 (l[a]:Int)):=hc a ha'
 have hcall:=VP l[a] b w (hf.get a ha')
 clear hc
 generalize l[a]=x at*
 go_enter Tryz.func58,Tryz.ntmps58
 go_wp2_with (go_at_call 99;refine hcall.mono ?_;rintro e w' ⟨rfl,rfl⟩)
 go_ret
 exact⟨by rw[HE.out];rfl,rfl⟩)
 ·go_enter Tryz.func58,Tryz.ntmps58
  go_wp2
  go_ret
  exact⟨by rw[HN.out (by omega)];rfl,rfl⟩)
 ·go_enter Tryz.func58,Tryz.ntmps58
  go_wp2
  go_ret
  exact⟨by rw[HN.out (by omega)];rfl,rfl⟩)
 ·go_enter Tryz.func58,Tryz.ntmps58
  go_wp2
  go_ret
  exact⟨by rw[HN.out (by omega)];rfl,rfl⟩)
 ·go_enter Tryz.func58,Tryz.ntmps58
  go_wp2
  go_ret
  exact⟨by rw[HN.out (by omega)];rfl,rfl⟩
theorem ZN (A:Option Addr)(n c B:Nat)(l:List Nat)(a b:Nat)(w:World)(h:Rd nm w B A n c l)(hf:Fit l)(ha:a < 18446744073709551616)(hb:b < 18446744073709551616):
  Calls Tryz.prog 100 #[.slice A n c,.int .u64 (a:Int),.int .u64 (b:Int)] w fun e w'=>e= .returned (.bool (Zj l a b))∧w=w':=by
 have HL:=Hd h.len
 have hcap:=h.cap
 have htop:=h.top
 unfold maxLen at htop
 have HN:Hid (¬(a < 64∧b < 64∧a < n∧b < n)→Zj l a b=false):=Hd fun hn=>Za1 (by rw[HL.out];exact hn)
 by_cases h1:a < 64
 ·(
 have d1:decide ((a:Int) < 64)=true:=by simp;omega
 by_cases h2:b < 64
 ·(
 have d2:decide ((b:Int) < 64)=true:=by simp;omega
 by_cases h3:a < n
 ·(
 have d3:decide (a < n)=true:=by simpa using h3
 by_cases h4:b < n
 ·(
 have d4:decide (b < n)=true:=by simpa using h4
 obtain⟨bk,o,rfl,_,hc⟩:=h.spot (by omega)
 have ha':a < l.length:=by rw[HL.out];exact h3
 have HE:=Hd (Rh (l:=l) ⟨h1,h2,ha',by rw[HL.out];exact h4⟩)
 have hcell:w.cell? ⟨bk,o+a,none⟩=some (.int .u64 (l[a]:Int)):=hc a ha'
 have hx:=hf.get a ha'
 have hsh:=ZeX (k:=b) hx
 rw[Nat.min_eq_left (by omega)] at hsh
 clear hc
 generalize l[a]=x at*
 cases hbt:x.testBit b with
 |true=>(
 rw[hbt] at hsh HE
 have hsh:bits .and .u64 ((x:Int) / 2 ^ b) 1=1:=hsh
 clear hbt
 go_enter Tryz.func100,Tryz.ntmps100
 go_wp2
 go_ret
 exact⟨by rw[HE.out];simp,rfl⟩)
 |false=>(
 rw[hbt] at hsh HE
 have hsh:bits .and .u64 ((x:Int) / 2 ^ b) 1=0:=hsh
 clear hbt
 go_enter Tryz.func100,Tryz.ntmps100
 go_wp2
 go_ret
 exact⟨by rw[HE.out];simp,rfl⟩))
 ·(
 have d4:decide (b < n)=false:=by simpa using h4
 go_enter Tryz.func100,Tryz.ntmps100
 go_wp2
 go_ret
 exact⟨by rw[HN.out (by omega)];rfl,rfl⟩))
 ·(
 have d3:decide (a < n)=false:=by simpa using h3
 go_enter Tryz.func100,Tryz.ntmps100
 go_wp2
 go_ret
 exact⟨by rw[HN.out (by omega)];rfl,rfl⟩))
 ·(
 have d2:decide ((b:Int) < 64)=false:=by simp;omega
 go_enter Tryz.func100,Tryz.ntmps100
 go_wp2
 go_ret
 exact⟨by rw[HN.out (by omega)];rfl,rfl⟩))
 ·(
 have d1:decide ((a:Int) < 64)=false:=by simp;omega
 go_enter Tryz.func100,Tryz.ntmps100
 go_wp2
 go_ret
 exact⟨by rw[HN.out (by omega)];rfl,rfl⟩)
theorem ZjP (A:Option Addr)(n c B:Nat)(l:List Nat)(a b:Nat)(w:World)(h:Rd nm w B A n c l)(hf:Fit l)(ha:a < 18446744073709551616)(hb:b < 18446744073709551616):
  Calls Tryz.prog 58 #[.slice A n c,.int .u64 (a:Int),.int .u64 (b:Int)] w fun e w'=>e= .returned (.bool (Zj l a b))∧w'=w:=
 (VW A n c B l a b w h hf ha hb).mono fun _ _ ⟨he,hw⟩=>⟨he,hw.symm⟩
theorem Ri (A:Option Addr)(n c B:Nat)(l:List Nat)(a b:Nat)(w:World)(h:Rd nm w B A n c l)(hf:Fit l)(ha:a < 18446744073709551616)(hb:b < 18446744073709551616):
  Calls Tryz.prog 100 #[.slice A n c,.int .u64 (a:Int),.int .u64 (b:Int)] w fun e w'=>e= .returned (.bool (Zj l a b))∧w'=w:=
 (ZN A n c B l a b w h hf ha hb).mono fun _ _ ⟨he,hw⟩=>⟨he,hw.symm⟩
end Go.Proofs.YtmejhedegmjboaaGreat.La
namespace Go.Proofs.YtmejhedegmjboaaGreat.La
open Go.RowKit
theorem Zhe {l:List Nat}{t k:Nat}(hf:Fit l)(ht:t < 18446744073709551616)(hk:k < l.length):leastOf l t k=(t.testBit k && (t &&& (18446744073709551615 - l[k])==0)):=by
 rw[leastOf,getD_at hk]
 have:=ZeV (t:=t) (r:=l[k]) ht (hf.get k hk)
 rw[← this]
def ZmH (l:List Nat)(t:Nat)(w:World)(v8:Value)(wr:World):Prop:= ∃k:Nat,v8= .int .i64 (k:Int)∧k≤l.length∧ZM l t k=false∧wr=w
theorem Za2 (A:Option Addr)(n c B:Nat)(l:List Nat)(t:Nat)(w:World)(h:Rd nm w B A n c l)(hf:Fit l)(ht:t < 18446744073709551616):
  Calls Tryz.prog 140 #[.slice A n c,.int .u64 (t:Int)] w fun e w'=>e= .returned (.bool (ZM l t n))∧w=w':=by
 have HL:=Hd h.len
 have hcap:=h.cap
 have htop:=h.top
 unfold maxLen at htop
 go_enter Tryz.func140,Tryz.ntmps140
 go_wp2
 go_loopw [8] (fun v8 wr=>ZmH l t w v8 wr) (fun v8 _=>n - (intOf v8).toNat)
 case atStart=>exact⟨0,rfl,by omega,rfl,rfl⟩
 case round=>(
 obtain⟨k,rfl,hk,hkn,rfl⟩:=hrel
 have HK:=Hd hkn
 clear hkn
 by_cases hlt:k < n
 ·(
 obtain⟨b,o,rfl,_,hc⟩:=h.spot (by omega)
 have hk':k < l.length:=by rw[HL.out];exact hlt
 have hcell:wr.cell? ⟨b,o+k,none⟩=some (.int .u64 (l[k]:Int)):=hc k hk'
 have hx:=hf.get k hk'
 have hs:=QT l t k
 have hl:=Zhe hf ht hk'
 rw[HK.out,Bool.false_or,hl] at hs
 have htrue:(t.testBit k && (t &&& (18446744073709551615 - l[k])==0))=true→ZM l t n=true:=fun e=>KF hlt (hl.trans e)
 have han:=u64_andNot_nat t l[k] ht hx
 have hcall:=VP t k wr ht
 generalize t &&& (18446744073709551615 - l[k])=q at*
 generalize l[k]=x at*
 have HS:=Hd hs
 have HF:=Hd htrue
 clear hc hs htrue hl
 cases hb:t.testBit k with
 |true=>(
 rw[hb] at hcall HS HF
 clear hb
 by_cases hq0:q=0
 ·subst hq0
  go_wp2_with (go_at_call 99;refine hcall.mono ?_;rintro e w' ⟨rfl,rfl⟩)
  go_ret
  exact⟨by rw[HF.out rfl];rfl,rfl⟩
 ·(
 have hne:((q:Int)==0)=false:=by simpa using hq0
 go_wp2_with (go_at_call 99;refine hcall.mono ?_;rintro e w' ⟨rfl,rfl⟩)
 go_roundw
 case rel=>exact⟨k+1,by go_num,by omega,by rw[HS.out];simpa using hq0,rfl⟩
 case measure=>simp[intOf];omega))
 |false=>(
 rw[hb] at hcall HS HF
 clear hb
 go_wp2_with (go_at_call 99;refine hcall.mono ?_;rintro e w' ⟨rfl,rfl⟩)
 go_roundw
 case rel=>exact⟨k+1,by go_num,by omega,by rw[HS.out];rfl,rfl⟩
 case measure=>simp[intOf];omega))
 ·obtain rfl:k=n:=by have:=HL.out;omega
  go_wp2
  go_ret
  exact⟨by rw[HK.out];rfl,rfl⟩)
def ZmI (l:List Nat)(w:World)(v9:Value)(wr:World):Prop:= ∃i:Nat,v9= .int .i64 (i:Int)∧i≤l.length∧Vh l i=true∧wr=w
def JoIn (l:List Nat)(w:World)(i:Nat)(v18:Value)(wr:World):Prop:= ∃j:Nat,v18= .int .i64 (j:Int)∧j≤i∧Ub l i j=true∧wr=w
theorem ZjQ (w:World):(Go.sizeOf 60).run Tryz.prog w= .ok 1 w:=by kernel_rfl
theorem YI (A:Option Addr)(n c B:Nat)(l:List Nat)(w:World)(h:Rd nm w B A n c l)(hf:Fit l):
  Calls Tryz.prog 97 #[.slice A n c] w fun e w'=>e= .returned (.bool (Vh l n))∧w=w':=by
 have HL:=Hd h.len
 have hcap:=h.cap
 have htop:=h.top
 unfold maxLen at htop
 go_enter Tryz.func97,Tryz.ntmps97
 go_wp2
 go_loopw [9] (fun v9 wr=>ZmI l w v9 wr) (fun v9 _=>n - (intOf v9).toNat)
 case atStart=>exact⟨0,rfl,by omega,rfl,rfl⟩
 case round=>(
 obtain⟨i,rfl,hi,hjn,rfl⟩:=hrel
 have HJ:=Hd hjn
 clear hjn
 by_cases hlt:i < n
 ·(
 have hi':i < l.length:=by rw[HL.out];exact hlt
 obtain⟨A',n',c',hsl,hcut⟩:=Zea 22 60 Tryz.underlying22 ZjQ h (i:Int) (by omega) (by omega)
 rw[Int.toNat_natCast] at hcut
 obtain rfl:n'=i:=by rw[← hcut.len,List.length_take];omega
 have hx:=hf.get n' hi'
 have hhl:=fun t w=>Za2 A n c B l t w
 have HJS:=Hd (ZaR l n')
 have hrow:Ub l n' n'=false→Vh l n=false:=fun e=>ZX hlt e
 have HROW:=Hd hrow
 clear hrow
 have HALL:Hid (∀j,j < n'→ZM l (l.getD n' 0 &&& l.getD j 0) l.length=false→Ub l n' n'=false):=Hd fun j hj e=>ZX hj e
 have HGX:=Hd (getD_at hi')
 have hcell: ∃b o,A=some ⟨b,o,none⟩∧wr.cell? ⟨b,o+n',none⟩=some (.int .u64 (l[n']:Int)):=by
  obtain⟨b,o,rfl,_,hc⟩:=h.spot (by omega)
  exact⟨b,o,rfl,hc n' hi'⟩
 obtain⟨b,o,rfl,hcx⟩:=hcell
 generalize l[n']=x at*
 have HH:=Hd h
 have hcc:=hcut.cap
 have htt:=hcut.top
 unfold maxLen at htt
 obtain⟨wo,rfl⟩: ∃wo:World,wo=wr:=⟨_,rfl⟩
 go_wp2
 go_loopw [18] (fun v18 wr=>JoIn l wo n' v18 wr) (fun v18 _=>n' - (intOf v18).toNat)
 case atStart=>exact⟨0,rfl,by omega,rfl,rfl⟩
 case round=>(
 obtain⟨j,rfl,hj,hjr,rfl⟩:=hrel
 have HR:=Hd hjr
 clear hjr hcx hsl
 by_cases hlt2:j < n'
 ·(
 obtain⟨b2,o2,rfl,_,hc2⟩:=hcut.spot (by omega)
 have hj':j < l.length:=by omega
 have hcy:wr.cell? ⟨b2,o2+j,none⟩=some (.int .u64 (l[j]:Int)):=by(
 have:=hc2 j (by rw[List.length_take];omega)
 rw[List.getElem_take] at this
 exact this)
 have hy:=hf.get j hj'
 have HGY:=Hd (getD_at hj')
 have HRS:=Hd (ZaQ l n' j)
 have hand:=u64_and_nat x l[j] hx hy
 have hzlt:x &&& l[j] < 18446744073709551616:=Nat.lt_of_le_of_lt Nat.and_le_left hx
 generalize l[j]=y at*
 have hcall:=hhl (x &&& y) wr HH.out hf hzlt
 have HZ:Hid (ZM l (l.getD n' 0 &&& l.getD j 0) l.length=ZM l (x &&& y) n):=by
  refine Hd ?_
  rw[HGX.out,HGY.out,HL.out]
 generalize x &&& y=z at*
 clear hc2
 cases hb:ZM l z n with
 |true=>(
 have HB:=Hd hb
 rw[hb] at hcall
 clear hb
 go_wp2_with (go_at_call 140;refine hcall.mono ?_;rintro e w' ⟨rfl,rfl⟩)
 go_roundw
 case rel=>exact⟨j+1,by go_num,by omega,by rw[HRS.out,HR.out,HZ.out,HB.out];rfl,rfl⟩
 case measure=>simp[intOf];omega)
 |false=>(
 have HB:=Hd hb
 rw[hb] at hcall
 clear hb
 go_wp2_with (go_at_call 140;refine hcall.mono ?_;rintro e w' ⟨rfl,rfl⟩)
 go_ret
 exact⟨by rw[HROW.out (HALL.out j hlt2 (HZ.out.trans HB.out))];rfl,rfl⟩))
 ·(
 obtain rfl:j=n':=by omega
 go_wp2
 go_roundw
 case rel=>exact⟨j+1,by go_num,by have:=HL.out;omega,by rw[HJS.out,HJ.out,HR.out];rfl,rfl⟩
 case measure=>simp[intOf];omega)))
 ·obtain rfl:i=n:=by have:=HL.out;omega
  go_wp2
  go_ret
  exact⟨by rw[HJ.out];rfl,rfl⟩)
theorem check_any (A:Option Addr)(n c:Nat)(l:List Nat)(w:World)(h:Rd nm w w.heap.size A n c l)(hf:Fit l):
  Calls Tryz.prog 57 #[.slice A n c] w fun e w'=>e= .returned (.int .i64 (checkN l))∧Below w.heap.size w w':=by
 have HL:=Hd h.len
 have hkn:=ZeZ A n c w.heap.size l w h hf
 cases hk:U3 l with
 |false=>(
 have HE:Hid (checkN l=1):=Hd (by simp[checkN,hk])
 rw[hk] at hkn
 go_enter Tryz.func57,Tryz.ntmps57
 go_wp2_with fail
 refine hkn.mono ?_
 rintro e w1 ⟨rfl,rfl⟩
 go_wp2_with fail
 go_ret
 exact⟨by rw[HE.out];rfl,Below.refl _ _⟩)
 |true=>(
 have hn:=((YF l).1 hk).1
 rw[HL.out] at hn
 rw[hk] at hkn
 cases ho:Vg l n with
 |false=>(
 have HE:Hid (checkN l=9):=Hd (by simp[checkN,hk,HL.out,ho])
 have HO:=Hd ho
 clear ho hk
 go_enter Tryz.func57,Tryz.ntmps57
 go_wp2_with fail
 refine hkn.mono ?_
 rintro e w1 ⟨rfl,rfl⟩
 go_wp2_with fail
 refine(U6 A n c l w h hf (by omega)).mono ?_
 rintro e w2 ⟨he,hb2⟩
 rw[HO.out] at he
 subst he
 go_wp2_with fail
 go_ret
 exact⟨by rw[HE.out];rfl,hb2⟩)
 |true=>(
 have HO:=Hd ho
 cases hj:Vh l n with
 |false=>(
 have HE:Hid (checkN l=7):=Hd (by simp[checkN,hk,HL.out,ho,hj])
 have HJ:=Hd hj
 clear ho hk hj
 go_enter Tryz.func57,Tryz.ntmps57
 go_wp2_with fail
 refine hkn.mono ?_
 rintro e w1 ⟨rfl,rfl⟩
 go_wp2_with fail
 refine(U6 A n c l w h hf (by omega)).mono ?_
 rintro e w2 ⟨he,hb2⟩
 rw[HO.out] at he
 subst he
 go_wp2_with fail
 refine(YI A n c w.heap.size l w2 (h.below hb2) hf).mono ?_
 rintro e w3 ⟨he,rfl⟩
 rw[HJ.out] at he
 subst he
 go_wp2_with fail
 go_ret
 exact⟨by rw[HE.out];rfl,hb2⟩)
 |true=>(
 have HJ:=Hd hj
 have HE:Hid (checkN l=if Vh (Zo l) n=true then 0 else 7):=Hd (by simp[checkN,hk,HL.out,ho,hj])
 have htl:=Zq l
 rw[HL.out] at htl
 have HTL:=Hd htl
 clear ho hk hj htl
 go_enter Tryz.func57,Tryz.ntmps57
 go_wp2_with fail
 refine hkn.mono ?_
 rintro e w1 ⟨rfl,rfl⟩
 go_wp2_with fail
 refine(U6 A n c l w h hf (by omega)).mono ?_
 rintro e w2 ⟨he,hb2⟩
 rw[HO.out] at he
 subst he
 have h2:=h.at_size lR hb2
 go_wp2_with fail
 refine(YI A n c w.heap.size l w2 (h.below hb2) hf).mono ?_
 rintro e w3 ⟨he,rfl⟩
 rw[HJ.out] at he
 subst he
 go_wp2_with fail
 refine(Vd A n c l w2 h2 hf (by omega)).mono ?_
 rintro e w4 ⟨rfl,hblk,hb4⟩
 have hb24:=hb2.trans (hb4.mono hb2.size)
 have hr4:=Rf hblk HTL.out (by omega)
 clear hblk
 go_wp2_with fail
 refine(YI _ n n _ (Zo l) w4 hr4 (YH (by have:=HL.out;omega))).mono ?_
 rintro e w5 ⟨he,rfl⟩
 cases hq:Vh (Zo l) n with
 |true=>(
 rw[hq] at he HE
 subst he
 clear hq
 go_wp2_with fail
 go_ret
 exact⟨by rw[HE.out];rfl,hb24⟩)
 |false=>(
 rw[hq] at he HE
 subst he
 clear hq
 go_wp2_with fail
 go_ret
 exact⟨by rw[HE.out];rfl,hb24⟩))))
end Go.Proofs.YtmejhedegmjboaaGreat.La
namespace Go.Proofs.YtmejhedegmjboaaGreat.La
def U1 (f:Nat→Nat→Bool)(s:List Nat)(x k:Nat):Bool:=(List.range k).all fun y=>f x (s.getD y 0)
theorem UR (f:Nat→Nat→Bool)(s:List Nat)(x k:Nat):U1 f s x (k+1)=(U1 f s x k && f x (s.getD k 0)):=by
 simp[U1,List.range_succ]
def lsK (f:Nat→Nat→Bool)(s:List Nat)(k:Nat):Bool:=(List.range k).any fun i=>U1 f s (s.getD i 0) s.length
theorem ZcH (f:Nat→Nat→Bool)(s:List Nat)(k:Nat):lsK f s (k+1)=(lsK f s k||U1 f s (s.getD k 0) s.length):=by
 simp[lsK,List.range_succ]
theorem Za3 {l:List Nat}{k:Nat}(h:k < l.length):l.getD k 0∈l:=by
 rw[getD_at h]
 exact List.getElem_mem h
theorem ZbO (f:Nat→Nat→Bool)(s:List Nat):lsK f s s.length=true↔ ∃x∈s,∀y∈s,f x y=true:=by
 simp only[lsK,U1,List.any_eq_true,List.all_eq_true,List.mem_range]
 constructor
 ·(
 rintro⟨i,hi,h⟩
 refine⟨s.getD i 0,Za3 hi,fun y hy=> ?_⟩
 obtain⟨j,hj,rfl⟩:=List.mem_iff_getElem.1 hy
 have:=h j hj
 rwa [getD_at hj] at this)
 ·(
 rintro⟨x,hx,h⟩
 obtain⟨i,hi,rfl⟩:=List.mem_iff_getElem.1 hx
 refine⟨i,hi,fun j hj=> ?_⟩
 rw[getD_at hi]
 exact h _ (Za3 hj))
def pick (p:Nat→Bool)(k:Nat):List Nat:=(List.range k).filter p
theorem Za4 (p:Nat→Bool)(k:Nat):pick p (k+1)=if p k then pick p k++ [k] else pick p k:=by
 unfold pick
 rw[List.range_succ,List.filter_append]
 by_cases h:p k=true <;> simp[h]
theorem ZcI (p:Nat→Bool)(k x:Nat):x∈pick p k↔x < k∧p x=true:=by simp[pick]
theorem ZcJ (p:Nat→Bool)(k:Nat):(pick p k).length≤k:=by
 have:=List.length_filter_le p (List.range k)
 rwa [List.length_range] at this
theorem ZcK (p:Nat→Bool)(k:Nat)(h:k≤18446744073709551616):Fit (pick p k):=fun x hx=>by
 have:=((ZcI p k x).1 hx).1
 omega
def upsL (l:List Nat)(a b:Nat):List Nat:=pick (fun i=>Zj l a i && Zj l b i) l.length
def U4 (l:List Nat)(a b:Nat):List Nat:=pick (fun i=>Zj l i a && Zj l i b) l.length
def UD (l:List Nat)(s:List Nat):Bool:=lsK (Zj l) s s.length
def UE (l:List Nat)(s:List Nat):Bool:=lsK (fun x y=>Zj l y x) s s.length
def trB (l:List Nat)(i j k:Nat):Bool:= !(Zj l i j && Zj l j k && !Zj l i k)
def anB (l:List Nat)(i j:Nat):Bool:= !((i !=j) && Zj l i j && Zj l j i)
def tr3 (l:List Nat)(i j k:Nat):Bool:=(List.range k).all fun k=>trB l i j k
def tr2 (l:List Nat)(i j:Nat):Bool:=(List.range j).all fun j=>anB l i j && tr3 l i j l.length
def tr1 (l:List Nat)(i:Nat):Bool:=(List.range i).all fun i=>Zj l i i && tr2 l i l.length
def la2 (l:List Nat)(i j:Nat):Bool:=(List.range j).all fun j=>UD l (upsL l i j) && UE l (U4 l i j)
def la1 (l:List Nat)(i:Nat):Bool:=(List.range i).all fun i=>la2 l i l.length
theorem Zhf (l:List Nat)(i j k:Nat):tr3 l i j (k+1)=(tr3 l i j k && trB l i j k):=by simp[tr3,List.range_succ]
theorem Zhg (l:List Nat)(i j:Nat):tr2 l i (j+1)=(tr2 l i j && (anB l i j && tr3 l i j l.length)):=by simp[tr2,List.range_succ]
theorem Zhh (l:List Nat)(i:Nat):tr1 l (i+1)=(tr1 l i && (Zj l i i && tr2 l i l.length)):=by simp[tr1,List.range_succ]
theorem Zhi (l:List Nat)(i j:Nat):la2 l i (j+1)=(la2 l i j && (UD l (upsL l i j) && UE l (U4 l i j))):=by simp[la2,List.range_succ]
theorem Zhj (l:List Nat)(i:Nat):la1 l (i+1)=(la1 l i && la2 l i l.length):=by simp[la1,List.range_succ]
theorem Yh {l:List Nat}(hn:l.length≤64){a b:Nat}(ha:a < l.length)(hb:b < l.length):Zj l a b=bt l a b:=by
 rw[Zj,decide_eq_true ⟨by omega,by omega,ha,hb⟩,Bool.true_and]
theorem ZbP {l:List Nat}(hn:l.length≤64):tr1 l l.length=true↔Ux l.length (bt l):=by
 have e: ∀{a b},a < l.length→b < l.length→Zj l a b=bt l a b:=Yh hn
 simp only[tr1,tr2,tr3,trB,anB,List.all_eq_true,List.mem_range,Bool.and_eq_true,Bool.not_eq_true',Bool.and_eq_false_iff,Bool.not_eq_false',bne_eq_false_iff_eq]
 constructor
 ·(
 intro h
 refine⟨fun i hi=>by rw[← e hi hi];exact(h i hi).1,fun i j hi hj h1 h2=> ?_,fun i j k hi hj hk h1 h2=> ?_⟩
 ·(
 rw[← e hi hj] at h1
 rw[← e hj hi] at h2
 rcases((h i hi).2 j hj).1 with(g|g)|g
 ·exact g
 ·rw[h1] at g;cases g
 ·rw[h2] at g;cases g)
 ·(
 rw[← e hi hj] at h1
 rw[← e hj hk] at h2
 rw[← e hi hk]
 rcases((h i hi).2 j hj).2 k hk with(g|g)|g
 ·rw[h1] at g;cases g
 ·rw[h2] at g;cases g
 ·exact g))
 ·(
 intro h i hi
 refine⟨by rw[e hi hi];exact h.refl i hi,fun j hj=>⟨?_,fun k hk=> ?_⟩⟩
 ·(
 rw[e hi hj,e hj hi]
 cases h1:bt l i j with
 |false=>exact .inl (.inr rfl)
 |true=>(
 cases h2:bt l j i with
 |false=>exact .inr rfl
 |true=>exact .inl (.inl (h.anti i j hi hj h1 h2))))
 ·(
 rw[e hi hj,e hj hk,e hi hk]
 cases h1:bt l i j with
 |false=>exact .inl (.inl rfl)
 |true=>(
 cases h2:bt l j k with
 |false=>exact .inl (.inr rfl)
 |true=>exact .inr (h.on i j k hi hj hk h1 h2))))
theorem Ze0 {l:List Nat}(hn:l.length≤64):la1 l l.length=true↔Ups l.length (bt l)∧Ups l.length (turn (bt l)):=by
 have e: ∀{a b},a < l.length→b < l.length→Zj l a b=bt l a b:=Yh hn
 simp only[la1,la2,UD,UE,List.all_eq_true,List.mem_range,Bool.and_eq_true,ZbO,upsL,U4,ZcI]
 constructor
 ·(
 intro h
 refine⟨fun a b ha hb=> ?_,fun a b ha hb=> ?_⟩
 ·obtain⟨⟨x,⟨hx,h1,h2⟩,h3⟩,_⟩:=h a ha b hb
  refine⟨x,hx,by rw[← e ha hx];exact h1,by rw[← e hb hx];exact h2,fun d hd g1 g2=> ?_⟩
  rw[← e hx hd]
  exact h3 d ⟨hd,by rw[e ha hd];exact g1,by rw[e hb hd];exact g2⟩
 ·(
 obtain⟨_,x,⟨hx,h1,h2⟩,h3⟩:=h a ha b hb
 refine⟨x,hx,?_,?_,fun d hd g1 g2=> ?_⟩
 ·show bt l x a=true
  rw[← e hx ha];exact h1
 ·show bt l x b=true
  rw[← e hx hb];exact h2
 ·show bt l d x=true
  rw[← e hd hx]
  exact h3 d ⟨hd,by rw[e hd ha];exact g1,by rw[e hd hb];exact g2⟩))
 ·(
 rintro⟨h,k⟩ a ha b hb
 obtain⟨x,hx,h1,h2,h3⟩:=h a b ha hb
 obtain⟨y,hy,k1,k2,k3⟩:=k a b ha hb
 have k1:bt l y a=true:=k1
 have k2:bt l y b=true:=k2
 refine⟨⟨x,⟨hx,by rw[e ha hx];exact h1,by rw[e hb hx];exact h2⟩,fun d ⟨hd,g1,g2⟩=> ?_⟩,y,⟨hy,by rw[e hy ha];exact k1,by rw[e hy hb];exact k2⟩,fun d ⟨hd,g1,g2⟩=> ?_⟩
 ·rw[e hx hd]
  exact h3 d hd (by rw[← e ha hd];exact g1) (by rw[← e hb hd];exact g2)
 ·rw[e hd hy]
  exact k3 d hd (by rw[e hd ha] at g1;exact g1) (by rw[e hd hb] at g2;exact g2))
end Go.Proofs.YtmejhedegmjboaaGreat.La
