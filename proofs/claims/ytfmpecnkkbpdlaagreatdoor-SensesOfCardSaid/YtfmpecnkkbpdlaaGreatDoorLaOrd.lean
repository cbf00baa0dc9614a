import Derived.Test.YtfmpecnkkbpdlaaGreatDoorProg
import Derived.Laws.BitsAllLaws
import Derived.Laws.ShiftsVar
import Derived.WalkKit
import Derived.OwnWalk
import Derived.Outline
import Derived.Laws.MakeOwn
import Derived.StillTailTactics
import Derived.Laws.ShiftsVarLaws
import Derived.Deep.QuietTactic
import Derived.BigQuiet
import Derived.Test.YtfmpecnkkbpdlaaGreatDoorRange
set_option maxRecDepth 100000
set_option maxHeartbeats 400000
namespace Go.Proofs.YtfmpecnkkbpdlaaGreatDoor.La
def bt (l:List Nat)(i j:Nat):Bool:=(l.getD i 0).testBit j
def mk (f:Nat→Bool):Nat→Nat
 |0=>0
 |n+1=>if f n then mk f n|||2 ^ n else mk f n
theorem Zfe (f:Nat→Bool): ∀n j,(mk f n).testBit j=(decide (j < n) && f j)
 |0,j=>by simp[mk]
 |n+1,j=>by
  unfold mk
  by_cases h:f n=true
  ·rw[if_pos h,Nat.testBit_or,Zfe f n j,Nat.testBit_two_pow]
   by_cases e:n=j
   ·subst e
    simp[h]
   ·have e1:decide (n=j)=false:=by simpa using e
    have e2:decide (j < n+1)=decide (j < n):=decide_eq_decide.2 (by omega)
    rw[e1,e2,Bool.or_false]
  ·rw[if_neg h,Zfe f n j]
   by_cases e:n=j
   ·subst e
    simp[h]
   ·have e2:decide (j < n+1)=decide (j < n):=decide_eq_decide.2 (by omega)
    rw[e2]
theorem Zje (f:Nat→Bool): ∀n,mk f n < 2 ^ n
 |0=>by simp[mk]
 |n+1=>by
  have h:=Zje f n
  have h2:2 ^ n < 2 ^ (n+1):=Nat.pow_lt_pow_right (by decide) (by omega)
  unfold mk
  split
  ·exact Nat.or_lt_two_pow (by omega) h2
  ·omega
theorem Zd2 {x n:Nat}(h: ∀j,n≤j→x.testBit j=false):x < 2 ^ n:=Nat.lt_pow_two_of_testBit x h
theorem Rn {x n j:Nat}(h:x < 2 ^ n)(hj:n≤j):x.testBit j=false:=Nat.testBit_lt_two_pow (Nat.lt_of_lt_of_le h (Nat.pow_le_pow_right (by decide) hj))
theorem Zan {l:List Nat}{i j:Nat}(h:bt l i j=true):i < l.length:=by
 rcases Nat.lt_or_ge i l.length with h'|h'
 ·exact h'
 ·rw[bt,List.getD_eq_getElem?_getD,List.getElem?_eq_none h'] at h
  simp at h
theorem Qh {l:List Nat}{i:Nat}(h:i < l.length)(j:Nat):bt l i j=l[i].testBit j:=by
 rw[bt,List.getD_eq_getElem?_getD,List.getElem?_eq_getElem h]
 rfl
def Small (l:List Nat):Prop:= ∀i j,l.length≤j→bt l i j=false
def Known (l:List Nat):Prop:=(1≤l.length∧l.length≤64)∧Small l
structure Ur (n:Nat)(R:Nat→Nat→Bool):Prop where
 refl: ∀i,i < n→R i i=true
 anti: ∀i j,i < n→j < n→R i j=true→R j i=true→i=j
 on: ∀i j k,i < n→j < n→k < n→R i j=true→R j k=true→R i k=true
def Ups (n:Nat)(R:Nat→Nat→Bool):Prop:=
 ∀a b,a < n→b < n→ ∃c,c < n∧R a c=true∧R b c=true∧ ∀d,d < n→R a d=true→R b d=true→R c d=true
def turn (R:Nat→Nat→Bool):Nat→Nat→Bool:=fun i j=>R j i
def Uz (l:List Nat)(e:Int):Prop:=
 (¬Known l∧e=1)∨(Known l∧ ¬Ur l.length (bt l)∧e=9)∨(Known l∧Ur l.length (bt l)∧ ¬(Ups l.length (bt l)∧Ups l.length (turn (bt l)))∧e=7)∨
  (Known l∧Ur l.length (bt l)∧(Ups l.length (bt l)∧Ups l.length (turn (bt l)))∧e=0)
theorem Uz.uniq {l:List Nat}{e f:Int}(h:Uz l e)(k:Uz l f):e=f:=by
 rcases h with⟨a,rfl⟩|⟨a,b,rfl⟩|⟨a,b,c,rfl⟩|⟨a,b,c,rfl⟩ <;> rcases k with⟨a',rfl⟩|⟨a',b',rfl⟩|⟨a',b',c',rfl⟩|⟨a',b',c',rfl⟩ <;>
  first
   |rfl
   |exact absurd a' a
   |exact absurd a a'
   |exact absurd b' b
   |exact absurd b b'
   |exact absurd c' c
   |exact absurd c c'
theorem Ur.congr {n:Nat}{R R':Nat→Nat→Bool}(h:Ur n R)(e: ∀i j,i < n→j < n→R' i j=R i j):Ur n R':=by
 refine⟨fun i hi=>(e i i hi hi).trans (h.refl i hi),fun i j hi hj h1 h2=>h.anti i j hi hj ?_ ?_,fun i j k hi hj hk h1 h2=>(e i k hi hk).trans (h.on i j k hi hj hk ?_ ?_)⟩
 ·rw[← e i j hi hj];exact h1
 ·rw[← e j i hj hi];exact h2
 ·rw[← e i j hi hj];exact h1
 ·rw[← e j k hj hk];exact h2
theorem Ups.congr {n:Nat}{R R':Nat→Nat→Bool}(h:Ups n R)(e: ∀i j,i < n→j < n→R' i j=R i j):Ups n R':=by
 intro a b ha hb
 obtain⟨c,hc,h1,h2,h3⟩:=h a b ha hb
 refine⟨c,hc,(e a c ha hc).trans h1,(e b c hb hc).trans h2,fun d hd g1 g2=>(e c d hc hd).trans (h3 d hd ?_ ?_)⟩
 ·rw[← e a d ha hd];exact g1
 ·rw[← e b d hb hd];exact g2
theorem Ur.turn {n:Nat}{R:Nat→Nat→Bool}(h:Ur n R):Ur n (turn R):=
 ⟨h.refl,fun i j hi hj h1 h2=>h.anti i j hi hj h2 h1,fun i j k hi hj hk h1 h2=>h.on k j i hk hj hi h2 h1⟩
def Zn (l:List Nat):List Nat:=(List.range l.length).map fun x=>mk (fun i=>bt l i x) l.length
theorem Zq (l:List Nat):(Zn l).length=l.length:=by simp[Zn]
theorem VD (l:List Nat)(i j:Nat):bt (Zn l) i j=(decide (i < l.length) && bt l j i):=by
 by_cases h:i < l.length
 ·rw[Qh (by rw[Zq];exact h)]
  simp only[Zn,List.getElem_map,List.getElem_range,Zfe,h,decide_true,Bool.true_and]
  by_cases hj:j < l.length
  ·simp[hj]
  ·have:bt l j i=false:=by
    cases hb:bt l j i with
    |false=>rfl
    |true=>exact absurd (Zan hb) hj
   simp[this]
 ·have:bt (Zn l) i j=false:=by
   cases hb:bt (Zn l) i j with
   |false=>rfl
   |true=>exact absurd (by have:=Zan hb;rwa [Zq] at this) h
  simp[this,h]
def Z7 (l:List Nat)(t:Nat):Nat→Nat
 |0=>t
 |k+1=>if t.testBit k then Z7 l t k|||l.getD k 0 else Z7 l t k
theorem YG (l:List Nat)(t:Nat): ∀k j,(Z7 l t k).testBit j=true↔t.testBit j=true∨ ∃i,i < k∧t.testBit i=true∧bt l i j=true
 |0,j=>by simp[Z7]
 |k+1,j=>by
  have ih:=YG l t k j
  unfold Z7
  by_cases h:t.testBit k=true
  ·rw[if_pos h,Nat.testBit_or,Bool.or_eq_true,ih]
   constructor
   ·rintro((h1|⟨i,h1,h2,h3⟩)|h1)
    ·exact .inl h1
    ·exact .inr ⟨i,by omega,h2,h3⟩
    ·exact .inr ⟨k,by omega,h,h1⟩
   ·rintro(h1|⟨i,h1,h2,h3⟩)
    ·exact .inl (.inl h1)
    ·by_cases e:i=k
     ·subst e
      exact .inr h3
     ·exact .inl (.inr ⟨i,by omega,h2,h3⟩)
  ·rw[if_neg h,ih]
   constructor
   ·rintro(h1|⟨i,h1,h2,h3⟩)
    ·exact .inl h1
    ·exact .inr ⟨i,by omega,h2,h3⟩
   ·rintro(h1|⟨i,h1,h2,h3⟩)
    ·exact .inl h1
    ·by_cases e:i=k
     ·subst e
      exact absurd h2 h
     ·exact .inr ⟨i,by omega,h2,h3⟩
theorem Zff {l:List Nat}{t m:Nat}(ht:t < 2 ^ m)(hl: ∀x∈l,x < 2 ^ m)(k:Nat):Z7 l t k < 2 ^ m:=by
 induction k with
 |zero=>exact ht
 |succ k ih=>
  unfold Z7
  split
  ·refine Nat.or_lt_two_pow ih ?_
   rw[List.getD_eq_getElem?_getD]
   rcases Nat.lt_or_ge k l.length with h|h
   ·rw[List.getElem?_eq_getElem h]
    exact hl _ (List.getElem_mem h)
   ·rw[List.getElem?_eq_none h]
    exact Nat.two_pow_pos m
  ·exact ih
theorem Qi (l:List Nat)(i:Nat):Z7 l (l.getD i 0) l.length=l.getD i 0↔ ∀j k,bt l i j=true→bt l j k=true→bt l i k=true:=by
 constructor
 ·intro e j k h1 h2
  show(l.getD i 0).testBit k=true
  rw[← e,YG]
  exact .inr ⟨j,Zan h2,h1,h2⟩
 ·intro h
  apply Nat.eq_of_testBit_eq
  intro j
  rw[Bool.eq_iff_iff,YG]
  constructor
  ·rintro(h1|⟨k,_,h2,h3⟩)
   ·exact h1
   ·exact h k j h2 h3
  ·exact .inl
def Vh (l:List Nat)(k:Nat):Bool:=(List.range k).all fun i=>(l.getD i 0 &&& (Zn l).getD i 0==2 ^ i) && (Z7 l (l.getD i 0) l.length==l.getD i 0)
theorem Zao (l:List Nat)(k:Nat):Vh l (k+1)=(Vh l k && ((l.getD k 0 &&& (Zn l).getD k 0==2 ^ k) && (Z7 l (l.getD k 0) l.length==l.getD k 0))):=by
 simp[Vh,List.range_succ]
theorem YT {l:List Nat}(hs:Small l):Vh l l.length=true↔Ur l.length (bt l):=by
 have hj: ∀{i j},bt l i j=true→j < l.length:=fun {i j} h=>by
  rcases Nat.lt_or_ge j l.length with h'|h'
  ·exact h'
  ·rw[hs i j h'] at h;cases h
 have key: ∀i,i < l.length→(l.getD i 0 &&& (Zn l).getD i 0=2 ^ i↔(bt l i i=true∧ ∀j,bt l i j=true→bt l j i=true→i=j)):=by
  intro i hi
  have hbit: ∀j,(l.getD i 0 &&& (Zn l).getD i 0).testBit j=(bt l i j && bt l j i):=by
   intro j
   rw[Nat.testBit_and]
   show(bt l i j && bt (Zn l) i j)=_
   rw[VD,decide_eq_true hi,Bool.true_and]
  constructor
  ·intro e
   refine⟨?_,fun j h1 h2=> ?_⟩
   ·have:=hbit i
    rw[e,Nat.testBit_two_pow] at this
    simpa using this.symm
   ·have:=hbit j
    rw[e,Nat.testBit_two_pow,h1,h2] at this
    simpa using this
  ·rintro⟨h1,h2⟩
   apply Nat.eq_of_testBit_eq
   intro j
   rw[hbit,Nat.testBit_two_pow,Bool.eq_iff_iff,Bool.and_eq_true,decide_eq_true_iff]
   constructor
   ·rintro⟨h3,h4⟩
    exact h2 j h3 h4
   ·rintro rfl
    exact⟨h1,h1⟩
 simp only[Vh,List.all_eq_true,List.mem_range,Bool.and_eq_true,beq_iff_eq]
 constructor
 ·intro h
  refine⟨fun i hi=>((key i hi).1 (h i hi).1).1,fun i j hi _ h1 h2=>((key i hi).1 (h i hi).1).2 j h1 h2,fun i j k hi _ _ h1 h2=>(Qi l i).1 (h i hi).2 j k h1 h2⟩
 ·intro h i hi
  exact⟨(key i hi).2 ⟨h.refl i hi,fun j h1 h2=>h.anti i j hi (hj h1) h1 h2⟩,(Qi l i).2 fun j k h1 h2=>h.on i j k hi (hj h1) (hj h2) h1 h2⟩
def leastOf (l:List Nat)(t i:Nat):Bool:=t.testBit i && (t ^^^ (t &&& l.getD i 0)==0)
theorem Zfg {t r:Nat}(ht:t < 2 ^ 64)(hr:r < 2 ^ 64):t &&& (2 ^ 64 - 1 - r)=t ^^^ (t &&& r):=by
 apply Nat.eq_of_testBit_eq
 intro j
 have h:=Nat.testBit_two_pow_sub_succ (x:=r) (n:=64) hr j
 rw[Nat.testBit_and,Nat.testBit_xor,Nat.testBit_and,show 2 ^ 64 - 1 - r=2 ^ 64 - (r+1) by omega,h]
 by_cases hj:j < 64
 ·rw[decide_eq_true hj,Bool.true_and]
  cases t.testBit j <;> cases r.testBit j <;> rfl
 ·rw[Rn ht (by omega),Bool.false_and,Bool.false_and,Bool.xor_false]
def ZK (l:List Nat)(t k:Nat):Bool:=(List.range k).any fun i=>leastOf l t i
theorem QR (l:List Nat)(t k:Nat):ZK l t (k+1)=(ZK l t k||leastOf l t k):=by
 simp[ZK,List.range_succ]
theorem Zck (l:List Nat)(t i:Nat):leastOf l t i=true↔t.testBit i=true∧ ∀j,t.testBit j=true→bt l i j=true:=by
 have:t ^^^ (t &&& l.getD i 0)=0↔ ∀j,t.testBit j=true→bt l i j=true:=by
  constructor
  ·intro e j hj
   have:=congrArg (·.testBit j) e
   simp only[Nat.testBit_xor,Nat.testBit_and,Nat.zero_testBit,hj,Bool.true_and] at this
   show(l.getD i 0).testBit j=true
   cases hb:(l.getD i 0).testBit j with
   |true=>rfl
   |false=>rw[hb] at this;cases this
  ·intro h
   apply Nat.eq_of_testBit_eq
   intro j
   rw[Nat.testBit_xor,Nat.testBit_and,Nat.zero_testBit]
   cases hj:t.testBit j with
   |false=>rfl
   |true=>
    have:=h j hj
    rw[show(l.getD i 0).testBit j=true from this]
    rfl
 simp only[leastOf,Bool.and_eq_true,beq_iff_eq,this]
theorem Zbs (l:List Nat)(t:Nat):ZK l t l.length=true↔ ∃c,c < l.length∧t.testBit c=true∧ ∀j,t.testBit j=true→bt l c j=true:=by
 simp only[ZK,List.any_eq_true,List.mem_range,Zck]
def Ud (l:List Nat)(i j:Nat):Bool:=(List.range j).all fun x=>ZK l (l.getD i 0 &&& l.getD x 0) l.length
def Vj (l:List Nat)(k:Nat):Bool:=(List.range k).all fun i=>Ud l i i
theorem Zbt (l:List Nat)(i j:Nat):Ud l i (j+1)=(Ud l i j && ZK l (l.getD i 0 &&& l.getD j 0) l.length):=by
 simp[Ud,List.range_succ]
theorem Zbu (l:List Nat)(k:Nat):Vj l (k+1)=(Vj l k && Ud l k k):=by
 simp[Vj,List.range_succ]
theorem Ro {l:List Nat}(hs:Small l)(ho:Ur l.length (bt l)):Vj l l.length=true↔Ups l.length (bt l):=by
 have hj: ∀{i j},bt l i j=true→j < l.length:=fun {i j} h=>by
  rcases Nat.lt_or_ge j l.length with h'|h'
  ·exact h'
  ·rw[hs i j h'] at h;cases h
 have hb: ∀a b j,(l.getD a 0 &&& l.getD b 0).testBit j=true↔bt l a j=true∧bt l b j=true:=fun a b j=>by
  rw[Nat.testBit_and,Bool.and_eq_true];rfl
 simp only[Vj,Ud,List.all_eq_true,List.mem_range,Zbs,hb]
 constructor
 ·intro h a b ha hb'
  rcases Nat.lt_trichotomy a b with h1|rfl|h1
  ·obtain⟨c,hc,⟨g1,g2⟩,g3⟩:=h b hb' a h1
   exact⟨c,hc,g2,g1,fun d hd k1 k2=>g3 d ⟨k2,k1⟩⟩
  ·exact⟨a,ha,ho.refl a ha,ho.refl a ha,fun d _ k1 _=>k1⟩
  ·obtain⟨c,hc,⟨g1,g2⟩,g3⟩:=h a ha b h1
   exact⟨c,hc,g1,g2,fun d hd k1 k2=>g3 d ⟨k1,k2⟩⟩
 ·intro h a ha b hb'
  obtain⟨c,hc,g1,g2,g3⟩:=h a b ha (by omega)
  exact⟨c,hc,⟨g1,g2⟩,fun d k=>g3 d (hj k.1) k.1 k.2⟩
def UA (l:List Nat)(k:Nat):Bool:=(List.range k).all fun i=>l.getD i 0 / 2 ^ l.length==0
theorem Qj (l:List Nat)(k:Nat):UA l (k+1)=(UA l k && (l.getD k 0 / 2 ^ l.length==0)):=by
 simp[UA,List.range_succ]
def UV (l:List Nat):Bool:=decide (1≤l.length∧l.length≤64) && UA l l.length
theorem Qk (l:List Nat):UA l l.length=true↔Small l:=by
 simp only[UA,List.all_eq_true,List.mem_range,beq_iff_eq]
 constructor
 ·intro h i j hj
  cases hb:bt l i j with
  |false=>rfl
  |true=>
   have h1:=h i (Zan hb)
   have h2:l.getD i 0 < 2 ^ l.length:=by
    rcases Nat.lt_or_ge (l.getD i 0) (2 ^ l.length) with h'|h'
    ·exact h'
    ·have:=Nat.div_pos h' (Nat.two_pow_pos l.length)
     omega
   rw[← hb]
   exact Rn h2 hj
 ·intro h i _
  exact Nat.div_eq_of_lt (Zd2 fun j hj=>h i j hj)
theorem YH (l:List Nat):UV l=true↔Known l:=by
 simp only[UV,Bool.and_eq_true,decide_eq_true_iff,Qk,Known]
def checkN (l:List Nat):Int:=
 if UV l=true then
  if Vh l l.length=true then
   if Vj l l.length=true∧Vj (Zn l) l.length=true then 0 else 7
  else 9
 else 1
theorem Zbv {l:List Nat}:Small (Zn l):=by
 intro i j hj
 rw[Zq] at hj
 rw[VD]
 have:bt l j i=false:=by
  cases hb:bt l j i with
  |false=>rfl
  |true=>have:=Zan hb;omega
 rw[this,Bool.and_false]
theorem Zap {l:List Nat}(ho:Ur l.length (bt l)):Vj (Zn l) l.length=true↔Ups l.length (turn (bt l)):=by
 have e: ∀i j,i < l.length→j < l.length→bt (Zn l) i j=turn (bt l) i j:=fun i j hi _=>by
  rw[VD,decide_eq_true hi,Bool.true_and]
  rfl
 have h:=Ro (l:=Zn l) Zbv (by rw[Zq];exact ho.turn.congr e)
 rw[Zq] at h
 rw[h]
 exact⟨fun h=>h.congr fun i j hi hj=>(e i j hi hj).symm,fun h=>h.congr e⟩
theorem Zbw (l:List Nat):Uz l (checkN l):=by
 unfold checkN Uz
 by_cases hk:UV l=true
 ·have hk':=(YH l).1 hk
  rw[if_pos hk]
  by_cases ho:Vh l l.length=true
  ·have ho':=(YT hk'.2).1 ho
   have hj:=(Ro hk'.2 ho')
   have ht:=Zap ho'
   rw[if_pos ho]
   by_cases hu:Ups l.length (bt l)∧Ups l.length (turn (bt l))
   ·rw[if_pos ⟨hj.2 hu.1,ht.2 hu.2⟩]
    exact .inr (.inr (.inr ⟨hk',ho',hu,rfl⟩))
   ·rw[if_neg (fun g=>hu ⟨hj.1 g.1,ht.1 g.2⟩)]
    exact .inr (.inr (.inl ⟨hk',ho',hu,rfl⟩))
  ·rw[if_neg ho]
   exact .inr (.inl ⟨hk',fun h=>ho ((YT hk'.2).2 h),rfl⟩)
 ·rw[if_neg hk]
  exact .inl ⟨fun h=>hk ((YH l).2 h),rfl⟩
theorem Zbx {l:List Nat}{e:Int}(h:Uz l e):e=checkN l:=h.uniq (Zbw l)
end Go.Proofs.YtfmpecnkkbpdlaaGreatDoor.La
namespace Go.Proofs.YtfmpecnkkbpdlaaGreatDoor.La
structure Clos (R S:Nat→Nat→Bool):Prop where
 has: ∀i j,R i j=true→S i j=true
 on: ∀i j k,S i j=true→S j k=true→S i k=true
 least: ∀T:Nat→Nat→Prop,(∀i j,R i j=true→T i j)→(∀i j k,T i j→T j k→T i k)→ ∀i j,S i j=true→T i j
structure Way (n:Nat)(R:Nat→Nat→Bool)(l:List Nat):Prop where
 len:l.length=n
 lt: ∀x∈l,x < 2 ^ n
 has: ∀i j,R i j=true→bt l i j=true
 least: ∀T:Nat→Nat→Prop,(∀i j,R i j=true→T i j)→(∀i j k,T i j→T j k→T i k)→ ∀i j,bt l i j=true→T i j
theorem Way.clos {n:Nat}{R:Nat→Nat→Bool}{l:List Nat}(h:Way n R l)(on: ∀i j k,bt l i j=true→bt l j k=true→bt l i k=true):Clos R (bt l):=⟨h.has,on,h.least⟩
theorem Zku {l:List Nat}{k:Nat}(hk:k < l.length)(v i j:Nat):bt (l.set k v) i j=if i=k then v.testBit j else bt l i j:=by
 by_cases e:i=k
 ·subst e
  rw[if_pos rfl,Qh (by rw[List.length_set];exact hk),List.getElem_set_self]
 ·rw[if_neg e,bt,bt,List.getD_eq_getElem?_getD,List.getD_eq_getElem?_getD,List.getElem?_set_ne (fun h=>e h.symm)]
theorem getD_mem {l:List Nat}{k:Nat}(h:k < l.length):l.getD k 0∈l:=by
 rw[List.getD_eq_getElem?_getD,List.getElem?_eq_getElem h]
 exact List.getElem_mem h
def stepW (l:List Nat)(k i:Nat):List Nat:=(List.range l.length).map fun x=>if x < i∧bt l x k=true then l.getD x 0|||l.getD k 0 else l.getD x 0
theorem ZW (l:List Nat)(k i:Nat):(stepW l k i).length=l.length:=by simp[stepW]
theorem Ql (l:List Nat)(k i x:Nat)(hx:x < l.length):(stepW l k i).getD x 0=if x < i∧bt l x k=true then l.getD x 0|||l.getD k 0 else l.getD x 0:=by
 rw[List.getD_eq_getElem?_getD,List.getElem?_eq_getElem (by rw[ZW];exact hx)]
 simp only[stepW,List.getElem_map,List.getElem_range,Option.getD_some]
theorem Yl {l:List Nat}{x:Nat}(h: ¬x < l.length):l.getD x 0=0:=by
 rw[List.getD_eq_getElem?_getD,List.getElem?_eq_none (by omega)]
 rfl
theorem Zaq (l:List Nat)(k i x j:Nat):bt (stepW l k i) x j=true↔bt l x j=true∨(x < i∧bt l x k=true∧bt l k j=true):=by
 by_cases hx:x < l.length
 ·rw[bt,Ql l k i x hx]
  by_cases h:x < i∧bt l x k=true
  ·rw[if_pos h,Nat.testBit_or,Bool.or_eq_true]
   constructor
   ·rintro(h1|h1)
    ·exact .inl h1
    ·exact .inr ⟨h.1,h.2,h1⟩
   ·rintro(h1|h1)
    ·exact .inl h1
    ·exact .inr h1.2.2
  ·rw[if_neg h]
   exact⟨.inl,fun h'=>h'.elim id fun h'=>absurd ⟨h'.1,h'.2.1⟩ h⟩
 ·constructor
  ·intro h
   exact absurd (by have:=Zan h;rwa [ZW] at this) hx
  ·rintro(h|⟨_,h,_⟩) <;> exact absurd (Zan h) hx
theorem Zd3 (l:List Nat)(k i:Nat):(stepW l k i).getD k 0=l.getD k 0:=by
 by_cases hk:k < l.length
 ·rw[Ql l k i k hk]
  split
  ·exact Nat.or_self _
  ·rfl
 ·rw[Yl hk,Yl (by rw[ZW];exact hk)]
theorem Zd4 (l:List Nat)(k i:Nat)(hi:i < l.length):stepW l k (i+1)=if ((stepW l k i).getD i 0).testBit k then(stepW l k i).set i ((stepW l k i).getD i 0|||(stepW l k i).getD k 0) else stepW l k i:=by
 have e0:(stepW l k i).getD i 0=l.getD i 0:=by
  rw[Ql l k i i hi,if_neg (fun h=>absurd h.1 (by omega))]
 rw[Zd3,e0]
 apply List.ext_getElem?
 intro x
 by_cases hx:x < l.length
 ·have a1:(stepW l k (i+1))[x]?=some (if x < i+1∧bt l x k=true then l.getD x 0|||l.getD k 0 else l.getD x 0):=by simp[stepW,hx]
  have a2:(stepW l k i)[x]?=some (if x < i∧bt l x k=true then l.getD x 0|||l.getD k 0 else l.getD x 0):=by simp[stepW,hx]
  by_cases e:x=i
  ·subst e
   by_cases h:bt l x k=true
   ·rw[if_pos (show(l.getD x 0).testBit k=true from h),List.getElem?_set_self (by rw[ZW];exact hx),a1,if_pos ⟨by omega,h⟩]
   ·rw[if_neg (show ¬(l.getD x 0).testBit k=true from h),a1,a2,if_neg (fun g=>h g.2),if_neg (fun g=>h g.2)]
  ·have e3:(x < i+1∧bt l x k=true)↔(x < i∧bt l x k=true):=⟨fun h=>⟨by omega,h.2⟩,fun h=>⟨by omega,h.2⟩⟩
   have a3:(stepW l k (i+1))[x]?=(stepW l k i)[x]?:=by
    rw[a1,a2]
    by_cases h:x < i∧bt l x k=true
    ·rw[if_pos h,if_pos (e3.2 h)]
    ·rw[if_neg h,if_neg (fun g=>h (e3.1 g))]
   rw[a3]
   split
   ·rw[List.getElem?_set_ne (by omega)]
   ·rfl
 ·rw[List.getElem?_eq_none (by rw[ZW];omega)]
  split
  ·rw[List.getElem?_eq_none (by rw[List.length_set,ZW];omega)]
  ·rw[List.getElem?_eq_none (by rw[ZW];omega)]
theorem Zd5 (l:List Nat)(k:Nat):stepW l k 0=l:=by
 apply List.ext_getElem?
 intro x
 by_cases hx:x < l.length
 ·simp[stepW,hx,List.getD_eq_getElem?_getD]
 ·rw[List.getElem?_eq_none (by rw[ZW];omega),List.getElem?_eq_none (by omega)]
def OnTo (l:List Nat)(k:Nat):Prop:= ∀m,m < k→ ∀i j,bt l i m=true→bt l m j=true→bt l i j=true
end Go.Proofs.YtfmpecnkkbpdlaaGreatDoor.La
namespace Go.Proofs.YtfmpecnkkbpdlaaGreatDoor.La
open Go.RowKit
def nm (x:Nat):Value:= .int .u64 (x:Int)
theorem Zc1 (x:Nat):(nm x).oneCell'=true:=rfl
def cl (l:List Nat):Array Value:=(l.map nm).toArray
theorem YI {l:List Nat}{j:Nat}(h:j < l.length):(cl l)[j]?=some (.int .u64 (l[j]:Int)):=by
 rw[cl,List.getElem?_toArray,List.getElem?_map,List.getElem?_eq_getElem h]
 rfl
theorem Zby (l:List Nat)(j v:Nat):(cl l).setIfInBounds j (.int .u64 (v:Int))=cl (l.set j v):=by
 simp[cl,List.map_set,nm]
def Fit (l:List Nat):Prop:= ∀x∈l,x < 18446744073709551616
theorem Fit.get {l:List Nat}(h:Fit l)(i:Nat)(hi:i < l.length):l[i] < 18446744073709551616:=h _ (List.getElem_mem hi)
theorem Zfh (x k:Nat):(x / 2 ^ k%2:Nat)=(x.testBit k).toNat:=by
 rw[Nat.testBit_eq_decide_div_mod_eq]
 rcases Nat.mod_two_eq_zero_or_one (x / 2 ^ k) with h|h <;> rw[h] <;> rfl
theorem Zcl (x k:Nat):(x:Int) / 2 ^ k=((x / 2 ^ k:Nat):Int):=by
 rw[Int.natCast_ediv,Int.natCast_pow]
 rfl
theorem Zjf {x k:Nat}(hx:x < 18446744073709551616):x / 2 ^ min k 64=x / 2 ^ k:=by
 by_cases h:k≤64
 ·rw[Nat.min_eq_left h]
 ·rw[Nat.min_eq_right (by omega),Nat.div_eq_of_lt (show x < 2 ^ 64 from hx),Nat.div_eq_of_lt]
  exact Nat.lt_of_lt_of_le (show x < 2 ^ 64 from hx) (Nat.pow_le_pow_right (by decide) (by omega))
theorem Zjg {x k:Nat}(hx:x < 18446744073709551616):(x:Int) / 2 ^ min k 64=((x / 2 ^ k:Nat):Int):=by
 rw[Zcl,Zjf hx]
theorem Zfi {x k:Nat}(hx:x < 18446744073709551616):bits .and .u64 ((x:Int) / 2 ^ min k 64) 1=((x.testBit k).toNat:Int):=by
 rw[Zjg hx, ← Zfh, ← Nat.and_one_is_mod]
 exact u64_and_nat _ 1 (Nat.lt_of_le_of_lt (Nat.div_le_self _ _) hx) (by decide)
theorem Zih {x k:Nat}(hx:x < 18446744073709551616):(bits .and .u64 ((x:Int) / 2 ^ min k 64) 1==1)=x.testBit k:=by
 rw[Zfi hx]
 cases x.testBit k <;> rfl
theorem VP (x k:Nat)(w:World)(hx:x < 18446744073709551616):
  Calls Tryz.prog 171 #[.int .u64 (x:Int),.int .i64 (k:Int)] w fun e w'=>e= .returned (.bool (x.testBit k))∧w=w':=by
 go_enter Tryz.func171,Tryz.ntmps171
 go_wp2
 go_ret
 exact⟨by rw[← Zih hx];rfl,rfl⟩
theorem Yw (n:Int)(w:World):Calls Tryz.prog 206 #[.int .i64 n] w fun e w'=>e= .returned (.bool (decide (1≤n∧n≤64)))∧w=w':=by
 by_cases h1:1≤n
 ·have hd1:decide (1≤n)=true:=by simpa using h1
  by_cases h2:n≤64
  ·go_enter Tryz.func206,Tryz.ntmps206
   go_wp2
   go_ret
   exact⟨by simp[h1,h2],rfl⟩
  ·go_enter Tryz.func206,Tryz.ntmps206
   go_wp2
   go_ret
   exact⟨by simp[h2],rfl⟩
 ·have hd1:decide (1≤n)=false:=by simpa using h1
  go_enter Tryz.func206,Tryz.ntmps206
  go_wp2
  go_ret
  exact⟨by simp,rfl⟩
def Zla (l:List Nat)(t:Nat)(w:World)(v5 v10:Value)(wr:World):Prop:= ∃k:Nat,v10= .int .i64 (k:Int)∧k≤l.length∧v5= .int .u64 (Z7 l t k:Int)∧wr=w
theorem Fit.two {l:List Nat}(h:Fit l): ∀x∈l,x < 2 ^ 64:=h
theorem Zfj (A:Option Addr)(n c B:Nat)(l:List Nat)(t:Nat)(w:World)(h:Rd nm w B A n c l)(hf:Fit l)(ht:t < 18446744073709551616):
  Calls Tryz.prog 207 #[.slice A n c,.int .u64 (t:Int)] w fun e w'=>e= .returned (.int .u64 (Z7 l t n:Int))∧w=w':=by
 have HL:=Hd h.len
 have hcap:=h.cap
 have htop:=h.top
 unfold maxLen at htop
 go_enter Tryz.func207,Tryz.ntmps207
 go_wp2
 go_loopw [5,10] (fun v5 v10 wr=>Zla l t w v5 v10 wr) (fun _ v10 _=>n - (intOf v10).toNat)
 case atStart=>exact⟨0,rfl,by omega,rfl,rfl⟩
 case round=>
  obtain⟨k,rfl,hk,rfl,rfl⟩:=hrel
  by_cases hlt:k < n
  ·obtain⟨b,o,rfl,_,hc⟩:=h.spot (by omega)
   have hk':k < l.length:=by rw[HL.out];exact hlt
   have hcell:wr.cell? ⟨b,o+k,none⟩=some (.int .u64 (l[k]:Int)):=hc k hk'
   have hx:=hf.get k hk'
   have ha:Z7 l t k < 18446744073709551616:=Zff ht hf.two k
   have hn:Z7 l t (k+1)=if t.testBit k then Z7 l t k|||l[k] else Z7 l t k:=by
    rw[Z7,List.getD_eq_getElem?_getD,List.getElem?_eq_getElem hk']
    rfl
   have ho:=u64_or_nat _ _ ha hx
   generalize Z7 l t k=y at*
   generalize l[k]=x at*
   have HN:=Hd hn
   clear hn hc
   cases hb:t.testBit k with
   |true=>
    have HB:=Hd hb
    have hcall:=VP t k wr ht
    rw[hb] at hcall
    clear hb
    go_wp2_with (go_at_call 171;refine hcall.mono ?_;rintro e w' ⟨rfl,rfl⟩)
    go_roundw
    case rel=>exact⟨k+1,by go_num,by omega,by rw[HN.out,HB.out];rfl,rfl⟩
    case measure=>simp[intOf];omega
   |false=>
    have HB:=Hd hb
    have hcall:=VP t k wr ht
    rw[hb] at hcall
    clear hb
    go_wp2_with (go_at_call 171;refine hcall.mono ?_;rintro e w' ⟨rfl,rfl⟩)
    go_roundw
    case rel=>exact⟨k+1,by go_num,by omega,by rw[HN.out,HB.out];rfl,rfl⟩
    case measure=>simp[intOf];omega
  ·obtain rfl:k=n:=by have:=HL.out;omega
   go_wp2
   go_ret
   exact⟨rfl,rfl⟩
end Go.Proofs.YtfmpecnkkbpdlaaGreatDoor.La
namespace Go.Proofs.YtfmpecnkkbpdlaaGreatDoor.La
open Go.RowKit
theorem YU:(Tryz.prog.info? 72).map (fun i=>(i.zero,i.size,i.bytes))=some (some (.int .u64 0),1,8):=by kernel_rfl
theorem Zjh (n:Nat):madeCells #[.int .u64 0] n=cl (List.replicate n 0):=by
 apply Array.ext
 ·simp[madeCells,cl]
 ·intro i h1 h2
  simp[madeCells,nm,cl,Nat.mod_one]
theorem Zcm (n:Nat)(h:n≤1000000)(W:World):(Instr.makeSlice 22 (.int .i64 (n:Int)) (.int .i64 (n:Int))).run Tryz.prog W= .ok (.slice (some ⟨W.heap.size,0,none⟩) n n) (W.alloc (.cells (cl (List.replicate n 0)) 72)):=by
 obtain⟨i0,hi0,hz0,hz1,hz2⟩:=info_parts YU
 have:=run_make (P:=Tryz.prog) W 22 72 i0 _ Tryz.underlying22 hi0 hz0 .i64 .i64 n n (by omega) (Int.le_refl _) (by rw[hz2];omega) (by omega)
 rw[this,hz1,Nat.mul_one,Int.toNat_natCast]
 rw[show(Value.int IntKind.u64 0).cells= #[.int .u64 0] from rfl,Zjh]
theorem UB {k:Nat}(h:k < 64):IntKind.u64.wrap ((2:Int) ^ k)=((2 ^ k:Nat):Int):=by
 have h1:(2:Nat) ^ k < 18446744073709551616:=Nat.pow_lt_pow_right (n:=64) (by decide) h
 show(2:Int) ^ k%18446744073709551616=_
 rw[Int.natCast_pow]
 have:((2 ^ k:Nat):Int) < 18446744073709551616:=by omega
 rw[Int.natCast_pow] at this
 exact Int.emod_eq_of_lt (Int.le_of_lt (Int.pow_pos (by decide))) this
theorem below_drewN (w:World)(q:Nat){B:Nat}:Below B w (w.drewN q):=⟨rfl,rfl,rfl,Nat.le_refl _,fun _ _=>rfl⟩
theorem Vf (w:World){B:Nat}:Below B w w.drew:=⟨rfl,rfl,rfl,Nat.le_refl _,fun _ _=>rfl⟩
def Drawn (w wr:World):Prop:= ∃q,wr=w.drewN q
theorem Drawn.refl (w:World):Drawn w w:=⟨0,rfl⟩
theorem Drawn.more {w wr:World}(h:Drawn w wr)(n:Nat):Drawn w (wr.drewN n):=by
 obtain⟨q,rfl⟩:=h
 exact⟨q+n,by simp[World.drewN,Nat.add_assoc]⟩
theorem Drawn.heap {w wr:World}(h:Drawn w wr):wr.heap=w.heap:=by
 obtain⟨q,rfl⟩:=h
 rfl
theorem Drawn.cell {w wr:World}(h:Drawn w wr)(p:Addr):wr.cell? p=w.cell? p:=by
 obtain⟨q,rfl⟩:=h
 rfl
theorem Drawn.below {w wr:World}(h:Drawn w wr){B:Nat}:Below B w wr:=by
 obtain⟨q,rfl⟩:=h
 exact below_drewN _ _
def ZM (l:List Nat)(i j:Nat):List Nat:=(List.range l.length).map fun x=>mk (fun y=>bt l y x) (if x < j then i+1 else i)
theorem Qm (l:List Nat)(i j:Nat):(ZM l i j).length=l.length:=by simp[ZM]
theorem Rq (l:List Nat):ZM l 0 0=List.replicate l.length 0:=by
 apply List.ext_getElem (by simp[ZM])
 intro x h1 h2
 simp[ZM,mk]
theorem Zbz (l:List Nat)(i:Nat):ZM l i l.length=ZM l (i+1) 0:=by
 apply List.ext_getElem (by simp[ZM])
 intro x h1 h2
 have:x < l.length:=by simpa [ZM] using h1
 simp[ZM,this]
theorem ZbA (l:List Nat):ZM l l.length 0=Zn l:=by
 simp[ZM,Zn]
theorem UC (l:List Nat)(i j x:Nat)(h:x < (ZM l i j).length):(ZM l i j)[x]=mk (fun y=>bt l y x) (if x < j then i+1 else i):=by
 simp[ZM]
theorem Zc2 (l:List Nat)(i j:Nat)(h:bt l i j=false):ZM l i (j+1)=ZM l i j:=by
 apply List.ext_getElem (by simp[ZM])
 intro x h1 h2
 rw[UC,UC]
 by_cases e:x=j
 ·subst e
  simp[mk,h]
 ·have:(x < j+1)=(x < j):=propext ⟨fun h=>by omega,fun h=>by omega⟩
  simp only[this]
theorem ZbB (l:List Nat)(i j:Nat)(hj:j < (ZM l i j).length)(h:bt l i j=true):ZM l i (j+1)=(ZM l i j).set j ((ZM l i j)[j]|||2 ^ i):=by
 apply List.ext_getElem (by simp[ZM])
 intro x h1 h2
 rw[UC]
 by_cases e:x=j
 ·subst e
  rw[List.getElem_set_self,UC]
  simp[mk,h]
 ·have:(x < j+1)=(x < j):=propext ⟨fun h=>by omega,fun h=>by omega⟩
  rw[List.getElem_set_ne (by omega),UC]
  simp only[this]
theorem Qn (l:List Nat)(i j:Nat)(hi:i < 64):Fit (ZM l i j):=by
 intro y hy
 obtain⟨x,_,rfl⟩:=List.mem_map.1 hy
 refine Nat.lt_of_lt_of_le (Zje _ _) ?_
 show _≤2 ^ 64
 exact Nat.pow_le_pow_right (by decide) (by split <;> omega)
def Zlb (l:List Nat)(w:World)(v12:Value)(wr:World):Prop:=
 ∃i:Nat,v12= .int .i64 (i:Int)∧i≤l.length∧wr.heap[w.heap.size]?=some (.cells (cl (ZM l i 0)) 72 (0,0))∧Below w.heap.size w wr
def TuIn (l:List Nat)(w:World)(i:Nat)(v19:Value)(wr:World):Prop:=
 ∃j:Nat,v19= .int .i64 (j:Int)∧j≤l.length∧wr.heap[w.heap.size]?=some (.cells (cl (ZM l i j)) 72 (0,0))∧Below w.heap.size w wr
theorem Ve (A:Option Addr)(n c:Nat)(l:List Nat)(w:World)(h:Rd nm w w.heap.size A n c l)(hf:Fit l)(hn:n≤64):
  Calls Tryz.prog 170 #[.slice A n c] w fun e w'=>e= .returned (.slice (some ⟨w.heap.size,0,none⟩) n n)∧w'.heap[w.heap.size]?=some (.cells (cl (Zn l)) 72 (0,0))∧Below w.heap.size w w':=by
 have HL:=Hd h.len
 have hmk:=Zcm n (by omega)
 go_enter Tryz.func170,Tryz.ntmps170
 go_wp2
 go_loopw [12] (fun v12 wr=>Zlb l w v12 wr) (fun v12 _=>n - (intOf v12).toNat)
 case atStart=>exact⟨0,rfl,by omega,by rw[Rq,HL.out];exact heap_alloc_new _ _,bA⟩
 case round=>
  obtain⟨i,rfl,hi,hblk,hb⟩:=hrel
  have HB:=Hd hblk
  clear hblk hmk
  by_cases hlt:i < n
  ·obtain⟨b,o,rfl,hbb,hc⟩:=h.spot (by omega)
   have hi':i < l.length:=by rw[HL.out];exact hlt
   have hcell:wr.cell? ⟨b,o+i,none⟩=some (.int .u64 (l[i]:Int)):=(hb.cell (p:=⟨b,o+i,none⟩) hbb).trans (hc i hi')
   have hx:=hf.get i hi'
   have hbt: ∀j,bt l i j=l[i].testBit j:=Qh hi'
   have HT:=Hd hbt
   clear hc hbt
   generalize l[i]=x at*
   go_wp2
   go_loopw [19] (fun v19 wr=>TuIn l w i v19 wr) (fun v19 _=>n - (intOf v19).toNat)
   case atStart=>exact⟨0,rfl,by omega,HB.out,hb⟩
   case round=>
    obtain⟨j,rfl,hj,hblk,hb2⟩:=hrel
    clear hcell hb HB
    by_cases hlt2:j < n
    ·have hcall:=VP x j wr hx
     have hp:=UB (k:=i) (by omega)
     have hlen:j < (ZM l i j).length:=by rw[Qm,HL.out];exact hlt2
     have hcj:=(Za (i:=j) hblk).trans (YI hlen)
     have hfz:wr.frozen? ⟨w.heap.size,j,none⟩=false:=Zb hblk
     have hyes:=ZbB l i j hlen
     have hfit:=(Qn l i j (by omega)).get j hlen
     generalize (ZM l i j)[j]=y at*
     have HBK:=Hd hblk
     have HY:=Hd hyes
     have hor:=u64_or_nat y (2 ^ i) hfit (by exact Nat.pow_lt_pow_right (n:=64) (by decide) (by omega))
     clear hblk hyes
     generalize 2 ^ i=p at*
     cases hbit:x.testBit j with
     |true=>
      rw[hbit] at hcall
      have HBIT:=Hd hbit
      clear hbit
      go_wp2_with (go_at_call 171;refine hcall.mono ?_;rintro e w' ⟨rfl,rfl⟩)
      go_still_tail 7,(by kernel_rfl)
      change wpList _ _ _ _ _ wr.drew
      have hcj':wr.drew.cell? ⟨w.heap.size,j,none⟩=some (.int .u64 (y:Int)):=hcj
      have hfz':wr.drew.frozen? ⟨w.heap.size,j,none⟩=false:=hfz
      have hb3:Below w.heap.size w wr.drew:=hb2.trans (Vf wr)
      have HBK':Hid (wr.drew.heap[w.heap.size]?=some (.cells (cl (ZM l i j)) 72 (0,0))):=HBK
      clear hcj hfz HBK hb2 hcall
      generalize wr.drew=w3 at*
      go_wp2
      go_roundw
      case rel=>exact⟨j+1,by go_num,by have:=HL.out;omega,by rw[Zj HBK'.out,Zby,HY.out (by rw[HT.out,HBIT.out])],hb3.setCell (p:=⟨w.heap.size,j,none⟩) lR _⟩
      case measure=>simp[intOf];omega
     |false=>
      rw[hbit] at hcall
      have HBIT:=Hd hbit
      clear hbit
      go_wp2_with (go_at_call 171;refine hcall.mono ?_;rintro e w' ⟨rfl,rfl⟩)
      go_roundw
      case rel=>exact⟨j+1,by go_num,by have:=HL.out;omega,by rw[Zc2 l i j (by rw[HT.out,HBIT.out])];exact HBK.out,hb2⟩
      case measure=>simp[intOf];omega
    ·obtain rfl:j=n:=by have:=HL.out;omega
     have HB2:=Hd hblk
     clear hblk
     go_wp2
     go_roundw
     case rel=>exact⟨i+1,by go_num,by have:=HL.out;omega,by rw[← Zbz,HL.out];exact HB2.out,hb2⟩
     case measure=>simp[intOf];omega
  ·obtain rfl:i=n:=by have:=HL.out;omega
   go_wp2
   go_ret
   exact⟨rfl,by have:=HB.out;rwa [← HL.out,ZbA] at this,hb⟩
end Go.Proofs.YtfmpecnkkbpdlaaGreatDoor.La
namespace Go.Proofs.YtfmpecnkkbpdlaaGreatDoor.La
open Go.RowKit
theorem ZX {p:Nat→Bool}{n i:Nat}(hi:i < n)(h:p i=false):(List.range n).all p=false:=by
 rw[List.all_eq_false]
 exact⟨i,List.mem_range.2 hi,by simp[h]⟩
theorem KA {p:Nat→Bool}{n i:Nat}(hi:i < n)(h:p i=true):(List.range n).any p=true:=by
 rw[List.any_eq_true]
 exact⟨i,List.mem_range.2 hi,h⟩
theorem getD_at {l:List Nat}{k:Nat}(h:k < l.length):l.getD k 0=l[k]:=by
 rw[List.getD_eq_getElem?_getD,List.getElem?_eq_getElem h]
 rfl
theorem ZbC {w:World}{g n:Nat}{l:List Nat}(h:w.heap[g]?=some (.cells (cl l) 72 (0,0)))(hl:l.length=n)(hn:n≤1000000):Rd nm w w.heap.size (some ⟨g,0,none⟩) n n l:=
 ⟨hl,Nat.le_refl _,by unfold maxLen;omega,(fun h=>by cases h),fun _=>⟨g,0,rfl,Zd h,fun j hj=>by rw[Nat.zero_add,Za h,YI hj];rfl⟩⟩
def Zlc (l:List Nat)(w:World)(v11:Value)(wr:World):Prop:= ∃k:Nat,v11= .int .i64 (k:Int)∧k≤l.length∧UA l k=true∧wr=w
theorem Zfk (A:Option Addr)(n c B:Nat)(l:List Nat)(w:World)(h:Rd nm w B A n c l)(hf:Fit l):
  Calls Tryz.prog 167 #[.slice A n c] w fun e w'=>e= .returned (.bool (UV l))∧w=w':=by
 have HL:=Hd h.len
 have hcap:=h.cap
 have htop:=h.top
 unfold maxLen at htop
 have hlab:=Yw (n:Int) w
 by_cases h64:1≤n∧n≤64
 ·rw[decide_eq_true (by omega)] at hlab
  have HN:Hid (UV l=UA l n):=by
   refine Hd ?_
   rw[UV,HL.out,decide_eq_true h64,Bool.true_and]
  go_enter Tryz.func167,Tryz.ntmps167
  go_wp2_with (go_at_call 206;refine hlab.mono ?_;rintro e w' ⟨rfl,rfl⟩)
  go_loopw [11] (fun v11 wr=>Zlc l w v11 wr) (fun v11 _=>n - (intOf v11).toNat)
  case atStart=>exact⟨0,rfl,by omega,rfl,rfl⟩
  case round=>
   obtain⟨k,rfl,hk,hkn,rfl⟩:=hrel
   have HK:=Hd hkn
   clear hkn
   by_cases hlt:k < n
   ·obtain⟨b,o,rfl,_,hc⟩:=h.spot (by omega)
    have hk':k < l.length:=by rw[HL.out];exact hlt
    have hcell:wr.cell? ⟨b,o+k,none⟩=some (.int .u64 (l[k]:Int)):=hc k hk'
    have hx:=hf.get k hk'
    have hs:=Qj l k
    rw[HK.out,Bool.true_and,getD_at hk',HL.out] at hs
    have hq:(l[k]:Int) / 2 ^ n=((l[k] / 2 ^ n:Nat):Int):=Zcl _ _
    have hfalse:(l[k] / 2 ^ n==0)=false→UA l n=false:=fun e=>ZX hlt (by rw[getD_at hk',HL.out];exact e)
    generalize l[k] / 2 ^ n=q at*
    generalize l[k]=x at*
    have HS:=Hd hs
    have HF:=Hd hfalse
    clear hc hs hfalse
    by_cases hq0:q=0
    ·subst hq0
     go_wp2
     go_roundw
     case rel=>exact⟨k+1,by go_num,by omega,HS.out,rfl⟩
     case measure=>simp[intOf];omega
    ·have hne:((q:Int) !=0)=true:=by simpa using hq0
     go_wp2
     go_ret
     exact⟨by rw[HN.out,HF.out (by simpa using hq0)];rfl,rfl⟩
   ·obtain rfl:k=n:=by have:=HL.out;omega
    go_wp2
    go_ret
    exact⟨by rw[HN.out,HK.out];rfl,rfl⟩
 ·rw[decide_eq_false (by omega)] at hlab
  have HN:Hid (UV l=false):=by
   refine Hd ?_
   rw[UV,HL.out,decide_eq_false h64,Bool.false_and]
  go_enter Tryz.func167,Tryz.ntmps167
  go_wp2_with (go_at_call 206;refine hlab.mono ?_;rintro e w' ⟨rfl,rfl⟩)
  go_ret
  exact⟨by rw[HN.out];rfl,rfl⟩
theorem Zji (A:Option Addr)(n c B:Nat)(l:List Nat)(t y:Nat)(w:World)(h:Rd nm w B A n c l)(hf:Fit l)(ht:t < 18446744073709551616)(hy:Z7 l t n=y):
  Calls Tryz.prog 207 #[.slice A n c,.int .u64 (t:Int)] w fun e w'=>e= .returned (.int .u64 (y:Int))∧w'=w:=
 hy▸(Zfj A n c B l t w h hf ht).mono fun _ _ ⟨he,hw⟩=>⟨he,hw.symm⟩
def Zld (l:List Nat)(w:World)(v10:Value)(wr:World):Prop:=
 ∃i:Nat,v10= .int .i64 (i:Int)∧i≤l.length∧Vh l i=true∧wr.heap[w.heap.size]?=some (.cells (cl (Zn l)) 72 (0,0))∧Below w.heap.size w wr
theorem YJ {l:List Nat}(h:l.length≤64):Fit (Zn l):=by
 intro y hy
 obtain⟨x,_,rfl⟩:=List.mem_map.1 hy
 refine Nat.lt_of_lt_of_le (Zje _ _) ?_
 show _≤2 ^ 64
 exact Nat.pow_le_pow_right (by decide) h
theorem U1 (A:Option Addr)(n c:Nat)(l:List Nat)(w:World)(h:Rd nm w w.heap.size A n c l)(hf:Fit l)(hn:n≤64):
  Calls Tryz.prog 168 #[.slice A n c] w fun e w'=>e= .returned (.bool (Vh l n))∧Below w.heap.size w w':=by
 have HL:=Hd h.len
 have hcap:=h.cap
 have htop:=h.top
 unfold maxLen at htop
 go_enter Tryz.func168,Tryz.ntmps168
 go_wp2_with fail
 refine(Ve A n c l w h hf hn).mono ?_
 rintro e w1 ⟨rfl,hblk1,hb1⟩
 have HB1:=Hd hblk1
 clear hblk1
 go_wp2
 go_loopw [10] (fun v10 wr=>Zld l w v10 wr) (fun v10 _=>n - (intOf v10).toNat)
 case atStart=>exact⟨0,rfl,by omega,rfl,HB1.out,hb1⟩
 case round=>
  obtain⟨i,rfl,hi,hord,hblk,hb⟩:=hrel
  have HO:=Hd hord
  clear hord
  by_cases hlt:i < n
  ·have hr:=h.below hb
   have hi':i < l.length:=by rw[HL.out];exact hlt
   have hs:=Zao l i
   have hlen:i < (Zn l).length:=by rw[Zq];exact hi'
   rw[HO.out,Bool.true_and,getD_at hi',getD_at hlen,HL.out] at hs
   have hx:=hf.get i hi'
   have hy:=(YJ (by have:=HL.out;omega)).get i hlen
   have hfalse:((l[i] &&& (Zn l)[i]==2 ^ i) && (Z7 l l[i] n==l[i]))=false→Vh l n=false:=fun e=>ZX hlt (by rw[getD_at hi',getD_at hlen,HL.out];exact e)
   have hcy:=(Za (i:=i) hblk).trans (YI hlen)
   obtain⟨b,o,rfl,hbb,hc⟩:=hr.spot (by omega)
   have hcx:wr.cell? ⟨b,o+i,none⟩=some (.int .u64 (l[i]:Int)):=hc i hi'
   have hp:=UB (k:=i) (by omega)
   have hand:=u64_and_nat l[i] (Zn l)[i] hx hy
   have hab: ∀w',(∀k,k < w.heap.size→w'.heap[k]?=wr.heap[k]?)→Calls Tryz.prog 207 #[.slice (some ⟨b,o,none⟩) n c,.int .u64 (l[i]:Int)] w' fun e w2=>e= .returned (.int .u64 (Z7 l l[i] n:Int))∧w2=w':=fun w' hk=>Zji _ n c w.heap.size l _ _ w' (hr.keep hk) hf hx rfl
   generalize l[i] &&& (Zn l)[i]=z at*
   generalize (Zn l)[i]=y at*
   generalize Z7 l l[i] n=u at*
   generalize l[i]=x at*
   generalize 2 ^ i=p at*
   have HS:=Hd hs
   have HF:=Hd hfalse
   have HBK:=Hd hblk
   have HA:=Hd hab
   clear hc hs hfalse hblk hr hab
   by_cases hz:z=p
   ·subst hz
    have hne:((z:Int) !=(z:Int))=false:=by simp
    by_cases hu:u=x
    ·subst hu
     have hne2:((u:Int) !=(u:Int))=false:=by simp
     go_wp2
     go_quiet ((go_at_call 207;exact Calls.quiet_of_same (HA.out _ (fun _ _=>rfl))))
     go_wp2
     go_roundw
     case rel=>exact⟨i+1,by go_num,by omega,by rw[HS.out];simp,HBK.out,hb.trans (by first|exact below_drewN _ _|exact Vf _)⟩
     case measure=>simp[intOf];omega
    ·have hne2:((u:Int) !=(x:Int))=true:=by simp;omega
     go_wp2
     go_quiet ((go_at_call 207;exact Calls.quiet_of_same (HA.out _ (fun _ _=>rfl))))
     go_wp2
     go_ret
     exact⟨by rw[HF.out (by simp[hu])];rfl,hb.trans (by first|exact below_drewN _ _|exact Vf _)⟩
   ·have hne:((z:Int) !=(p:Int))=true:=by simp;omega
    go_wp2
    go_quiet ((go_at_call 207;exact Calls.quiet_of_same (HA.out _ (fun _ _=>rfl))))
    go_wp2
    go_ret
    exact⟨by rw[HF.out (by simp[hz])];rfl,hb.trans (by first|exact below_drewN _ _|exact Vf _)⟩
  ·obtain rfl:i=n:=by have:=HL.out;omega
   go_wp2
   go_ret
   exact⟨by rw[HO.out];rfl,hb⟩
end Go.Proofs.YtfmpecnkkbpdlaaGreatDoor.La
namespace Go.Proofs.YtfmpecnkkbpdlaaGreatDoor.La
open Go.RowKit
def Zh (l:List Nat)(a b:Nat):Bool:=decide (a < 64∧b < 64∧a < l.length∧b < l.length) && bt l a b
theorem Qo {l:List Nat}{a b:Nat}(h: ¬(a < 64∧b < 64∧a < l.length∧b < l.length)):Zh l a b=false:=by
 rw[Zh,decide_eq_false h,Bool.false_and]
theorem Rt {l:List Nat}{a b:Nat}(h:a < 64∧b < 64∧a < l.length∧b < l.length):Zh l a b=l[a].testBit b:=by
 rw[Zh,decide_eq_true h,Bool.true_and,Qh h.2.2.1]
theorem VT (A:Option Addr)(n c B:Nat)(l:List Nat)(a b:Nat)(w:World)(h:Rd nm w B A n c l)(hf:Fit l)(ha:a < 18446744073709551616)(hb:b < 18446744073709551616):
  Calls Tryz.prog 96 #[.slice A n c,.int .u64 (a:Int),.int .u64 (b:Int)] w fun e w'=>e= .returned (.bool (Zh l a b))∧w=w':=by
 have HL:=Hd h.len
 have hcap:=h.cap
 have htop:=h.top
 unfold maxLen at htop
 have HN:Hid (¬(a < 64∧b < 64∧a < n∧b < n)→Zh l a b=false):=Hd fun hn=>Qo (by rw[HL.out];exact hn)
 by_cases h1:a < 64
 ·by_cases h2:b < 64
  ·by_cases h3:a < n
   ·by_cases h4:b < n
    ·obtain⟨bk,o,rfl,_,hc⟩:=h.spot (by omega)
     have ha':a < l.length:=by rw[HL.out];exact h3
     have HE:=Hd (Rt (l:=l) ⟨h1,h2,ha',by rw[HL.out];exact h4⟩)
     have hcell:w.cell? ⟨bk,o+a,none⟩=some (.int .u64 (l[a]:Int)):=hc a ha'
     have hcall:=VP l[a] b w (hf.get a ha')
     clear hc
     generalize l[a]=x at*
     go_enter Tryz.func96,Tryz.ntmps96
     go_wp2_with (go_at_call 171;refine hcall.mono ?_;rintro e w' ⟨rfl,rfl⟩)
     go_ret
     exact⟨by rw[HE.out];rfl,rfl⟩
    ·go_enter Tryz.func96,Tryz.ntmps96
     go_wp2
     go_ret
     exact⟨by rw[HN.out (by omega)];rfl,rfl⟩
   ·go_enter Tryz.func96,Tryz.ntmps96
    go_wp2
    go_ret
    exact⟨by rw[HN.out (by omega)];rfl,rfl⟩
  ·go_enter Tryz.func96,Tryz.ntmps96
   go_wp2
   go_ret
   exact⟨by rw[HN.out (by omega)];rfl,rfl⟩
 ·go_enter Tryz.func96,Tryz.ntmps96
  go_wp2
  go_ret
  exact⟨by rw[HN.out (by omega)];rfl,rfl⟩
theorem Zy (A:Option Addr)(n c B:Nat)(l:List Nat)(a b:Nat)(w:World)(h:Rd nm w B A n c l)(hf:Fit l)(ha:a < 18446744073709551616)(hb:b < 18446744073709551616):
  Calls Tryz.prog 172 #[.slice A n c,.int .u64 (a:Int),.int .u64 (b:Int)] w fun e w'=>e= .returned (.bool (Zh l a b))∧w=w':=by
 have HL:=Hd h.len
 have hcap:=h.cap
 have htop:=h.top
 unfold maxLen at htop
 have HN:Hid (¬(a < 64∧b < 64∧a < n∧b < n)→Zh l a b=false):=Hd fun hn=>Qo (by rw[HL.out];exact hn)
 by_cases h1:a < 64
 ·have d1:decide ((a:Int) < 64)=true:=by simp;omega
  by_cases h2:b < 64
  ·have d2:decide ((b:Int) < 64)=true:=by simp;omega
   by_cases h3:a < n
   ·have d3:decide (a < n)=true:=by simpa using h3
    by_cases h4:b < n
    ·have d4:decide (b < n)=true:=by simpa using h4
     obtain⟨bk,o,rfl,_,hc⟩:=h.spot (by omega)
     have ha':a < l.length:=by rw[HL.out];exact h3
     have HE:=Hd (Rt (l:=l) ⟨h1,h2,ha',by rw[HL.out];exact h4⟩)
     have hcell:w.cell? ⟨bk,o+a,none⟩=some (.int .u64 (l[a]:Int)):=hc a ha'
     have hx:=hf.get a ha'
     have hsh:=Zfi (k:=b) hx
     rw[Nat.min_eq_left (by omega)] at hsh
     clear hc
     generalize l[a]=x at*
     cases hbt:x.testBit b with
     |true=>
      rw[hbt] at hsh HE
      have hsh:bits .and .u64 ((x:Int) / 2 ^ b) 1=1:=hsh
      clear hbt
      go_enter Tryz.func172,Tryz.ntmps172
      go_wp2
      go_ret
      exact⟨by rw[HE.out];simp,rfl⟩
     |false=>
      rw[hbt] at hsh HE
      have hsh:bits .and .u64 ((x:Int) / 2 ^ b) 1=0:=hsh
      clear hbt
      go_enter Tryz.func172,Tryz.ntmps172
      go_wp2
      go_ret
      exact⟨by rw[HE.out];simp,rfl⟩
    ·have d4:decide (b < n)=false:=by simpa using h4
     go_enter Tryz.func172,Tryz.ntmps172
     go_wp2
     go_ret
     exact⟨by rw[HN.out (by omega)];rfl,rfl⟩
   ·have d3:decide (a < n)=false:=by simpa using h3
    go_enter Tryz.func172,Tryz.ntmps172
    go_wp2
    go_ret
    exact⟨by rw[HN.out (by omega)];rfl,rfl⟩
  ·have d2:decide ((b:Int) < 64)=false:=by simp;omega
   go_enter Tryz.func172,Tryz.ntmps172
   go_wp2
   go_ret
   exact⟨by rw[HN.out (by omega)];rfl,rfl⟩
 ·have d1:decide ((a:Int) < 64)=false:=by simp;omega
  go_enter Tryz.func172,Tryz.ntmps172
  go_wp2
  go_ret
  exact⟨by rw[HN.out (by omega)];rfl,rfl⟩
theorem Zjj (A:Option Addr)(n c B:Nat)(l:List Nat)(a b:Nat)(w:World)(h:Rd nm w B A n c l)(hf:Fit l)(ha:a < 18446744073709551616)(hb:b < 18446744073709551616):
  Calls Tryz.prog 96 #[.slice A n c,.int .u64 (a:Int),.int .u64 (b:Int)] w fun e w'=>e= .returned (.bool (Zh l a b))∧w'=w:=
 (VT A n c B l a b w h hf ha hb).mono fun _ _ ⟨he,hw⟩=>⟨he,hw.symm⟩
theorem Ru (A:Option Addr)(n c B:Nat)(l:List Nat)(a b:Nat)(w:World)(h:Rd nm w B A n c l)(hf:Fit l)(ha:a < 18446744073709551616)(hb:b < 18446744073709551616):
  Calls Tryz.prog 172 #[.slice A n c,.int .u64 (a:Int),.int .u64 (b:Int)] w fun e w'=>e= .returned (.bool (Zh l a b))∧w'=w:=
 (Zy A n c B l a b w h hf ha hb).mono fun _ _ ⟨he,hw⟩=>⟨he,hw.symm⟩
end Go.Proofs.YtfmpecnkkbpdlaaGreatDoor.La
namespace Go.Proofs.YtfmpecnkkbpdlaaGreatDoor.La
open Go.RowKit
theorem Zg9 {l:List Nat}{t k:Nat}(hf:Fit l)(ht:t < 18446744073709551616)(hk:k < l.length):leastOf l t k=(t.testBit k && (t &&& (18446744073709551615 - l[k])==0)):=by
 rw[leastOf,getD_at hk]
 have:=Zfg (t:=t) (r:=l[k]) ht (hf.get k hk)
 rw[← this]
def Zle (l:List Nat)(t:Nat)(w:World)(v8:Value)(wr:World):Prop:= ∃k:Nat,v8= .int .i64 (k:Int)∧k≤l.length∧ZK l t k=false∧wr=w
theorem ZbD (A:Option Addr)(n c B:Nat)(l:List Nat)(t:Nat)(w:World)(h:Rd nm w B A n c l)(hf:Fit l)(ht:t < 18446744073709551616):
  Calls Tryz.prog 208 #[.slice A n c,.int .u64 (t:Int)] w fun e w'=>e= .returned (.bool (ZK l t n))∧w=w':=by
 have HL:=Hd h.len
 have hcap:=h.cap
 have htop:=h.top
 unfold maxLen at htop
 go_enter Tryz.func208,Tryz.ntmps208
 go_wp2
 go_loopw [8] (fun v8 wr=>Zle l t w v8 wr) (fun v8 _=>n - (intOf v8).toNat)
 case atStart=>exact⟨0,rfl,by omega,rfl,rfl⟩
 case round=>
  obtain⟨k,rfl,hk,hkn,rfl⟩:=hrel
  have HK:=Hd hkn
  clear hkn
  by_cases hlt:k < n
  ·obtain⟨b,o,rfl,_,hc⟩:=h.spot (by omega)
   have hk':k < l.length:=by rw[HL.out];exact hlt
   have hcell:wr.cell? ⟨b,o+k,none⟩=some (.int .u64 (l[k]:Int)):=hc k hk'
   have hx:=hf.get k hk'
   have hs:=QR l t k
   have hl:=Zg9 hf ht hk'
   rw[HK.out,Bool.false_or,hl] at hs
   have htrue:(t.testBit k && (t &&& (18446744073709551615 - l[k])==0))=true→ZK l t n=true:=fun e=>KA hlt (hl.trans e)
   have han:=u64_andNot_nat t l[k] ht hx
   have hcall:=VP t k wr ht
   generalize t &&& (18446744073709551615 - l[k])=q at*
   generalize l[k]=x at*
   have HS:=Hd hs
   have HF:=Hd htrue
   clear hc hs htrue hl
   cases hb:t.testBit k with
   |true=>
    rw[hb] at hcall HS HF
    clear hb
    by_cases hq0:q=0
    ·subst hq0
     go_wp2_with (go_at_call 171;refine hcall.mono ?_;rintro e w' ⟨rfl,rfl⟩)
     go_ret
     exact⟨by rw[HF.out rfl];rfl,rfl⟩
    ·have hne:((q:Int)==0)=false:=by simpa using hq0
     go_wp2_with (go_at_call 171;refine hcall.mono ?_;rintro e w' ⟨rfl,rfl⟩)
     go_roundw
     case rel=>exact⟨k+1,by go_num,by omega,by rw[HS.out];simpa using hq0,rfl⟩
     case measure=>simp[intOf];omega
   |false=>
    rw[hb] at hcall HS HF
    clear hb
    go_wp2_with (go_at_call 171;refine hcall.mono ?_;rintro e w' ⟨rfl,rfl⟩)
    go_roundw
    case rel=>exact⟨k+1,by go_num,by omega,by rw[HS.out];rfl,rfl⟩
    case measure=>simp[intOf];omega
  ·obtain rfl:k=n:=by have:=HL.out;omega
   go_wp2
   go_ret
   exact⟨by rw[HK.out];rfl,rfl⟩
def Zlf (l:List Nat)(w:World)(v9:Value)(wr:World):Prop:= ∃i:Nat,v9= .int .i64 (i:Int)∧i≤l.length∧Vj l i=true∧wr=w
def JoIn (l:List Nat)(w:World)(i:Nat)(v18:Value)(wr:World):Prop:= ∃j:Nat,v18= .int .i64 (j:Int)∧j≤i∧Ud l i j=true∧wr=w
theorem Zjk (w:World):(Go.sizeOf 72).run Tryz.prog w= .ok 1 w:=by kernel_rfl
theorem YK (A:Option Addr)(n c B:Nat)(l:List Nat)(w:World)(h:Rd nm w B A n c l)(hf:Fit l):
  Calls Tryz.prog 169 #[.slice A n c] w fun e w'=>e= .returned (.bool (Vj l n))∧w=w':=by
 have HL:=Hd h.len
 have hcap:=h.cap
 have htop:=h.top
 unfold maxLen at htop
 go_enter Tryz.func169,Tryz.ntmps169
 go_wp2
 go_loopw [9] (fun v9 wr=>Zlf l w v9 wr) (fun v9 _=>n - (intOf v9).toNat)
 case atStart=>exact⟨0,rfl,by omega,rfl,rfl⟩
 case round=>
  obtain⟨i,rfl,hi,hjn,rfl⟩:=hrel
  have HJ:=Hd hjn
  clear hjn
  by_cases hlt:i < n
  ·have hi':i < l.length:=by rw[HL.out];exact hlt
   obtain⟨A',n',c',hsl,hcut⟩:=Zd6 22 72 Tryz.underlying22 Zjk h (i:Int) (by omega) (by omega)
   rw[Int.toNat_natCast] at hcut
   obtain rfl:n'=i:=by rw[← hcut.len,List.length_take];omega
   have hx:=hf.get n' hi'
   have hhl:=fun t w=>ZbD A n c B l t w
   have HJS:=Hd (Zbu l n')
   have hrow:Ud l n' n'=false→Vj l n=false:=fun e=>ZX hlt e
   have HROW:=Hd hrow
   clear hrow
   have HALL:Hid (∀j,j < n'→ZK l (l.getD n' 0 &&& l.getD j 0) l.length=false→Ud l n' n'=false):=Hd fun j hj e=>ZX hj e
   have HGX:=Hd (getD_at hi')
   have hcell: ∃b o,A=some ⟨b,o,none⟩∧wr.cell? ⟨b,o+n',none⟩=some (.int .u64 (l[n']:Int)):=by
    obtain⟨b,o,rfl,_,hc⟩:=h.spot (by omega)
    exact⟨b,o,rfl,hc n' hi'⟩
   obtain⟨b,o,rfl,hcx⟩:=hcell
   generalize l[n']=x at*
   have HH:=Hd h
   have hcc:=hcut.cap
   have htt:=hcut.top
   unfold maxLen at htt
   obtain⟨wo,rfl⟩: ∃wo:World,wo=wr:=⟨_,rfl⟩
   go_wp2
   go_loopw [18] (fun v18 wr=>JoIn l wo n' v18 wr) (fun v18 _=>n' - (intOf v18).toNat)
   case atStart=>exact⟨0,rfl,by omega,rfl,rfl⟩
   case round=>
    obtain⟨j,rfl,hj,hjr,rfl⟩:=hrel
    have HR:=Hd hjr
    clear hjr hcx hsl
    by_cases hlt2:j < n'
    ·obtain⟨b2,o2,rfl,_,hc2⟩:=hcut.spot (by omega)
     have hj':j < l.length:=by omega
     have hcy:wr.cell? ⟨b2,o2+j,none⟩=some (.int .u64 (l[j]:Int)):=by
      have:=hc2 j (by rw[List.length_take];omega)
      rw[List.getElem_take] at this
      exact this
     have hy:=hf.get j hj'
     have HGY:=Hd (getD_at hj')
     have HRS:=Hd (Zbt l n' j)
     have hand:=u64_and_nat x l[j] hx hy
     have hzlt:x &&& l[j] < 18446744073709551616:=Nat.lt_of_le_of_lt Nat.and_le_left hx
     generalize l[j]=y at*
     have hcall:=hhl (x &&& y) wr HH.out hf hzlt
     have HZ:Hid (ZK l (l.getD n' 0 &&& l.getD j 0) l.length=ZK l (x &&& y) n):=by
      refine Hd ?_
      rw[HGX.out,HGY.out,HL.out]
     generalize x &&& y=z at*
     clear hc2
     cases hb:ZK l z n with
     |true=>
      have HB:=Hd hb
      rw[hb] at hcall
      clear hb
      go_wp2_with (go_at_call 208;refine hcall.mono ?_;rintro e w' ⟨rfl,rfl⟩)
      go_roundw
      case rel=>exact⟨j+1,by go_num,by omega,by rw[HRS.out,HR.out,HZ.out,HB.out];rfl,rfl⟩
      case measure=>simp[intOf];omega
     |false=>
      have HB:=Hd hb
      rw[hb] at hcall
      clear hb
      go_wp2_with (go_at_call 208;refine hcall.mono ?_;rintro e w' ⟨rfl,rfl⟩)
      go_ret
      exact⟨by rw[HROW.out (HALL.out j hlt2 (HZ.out.trans HB.out))];rfl,rfl⟩
    ·obtain rfl:j=n':=by omega
     go_wp2
     go_roundw
     case rel=>exact⟨j+1,by go_num,by have:=HL.out;omega,by rw[HJS.out,HJ.out,HR.out];rfl,rfl⟩
     case measure=>simp[intOf];omega
  ·obtain rfl:i=n:=by have:=HL.out;omega
   go_wp2
   go_ret
   exact⟨by rw[HJ.out];rfl,rfl⟩
theorem check_any (A:Option Addr)(n c:Nat)(l:List Nat)(w:World)(h:Rd nm w w.heap.size A n c l)(hf:Fit l):
  Calls Tryz.prog 95 #[.slice A n c] w fun e w'=>e= .returned (.int .i64 (checkN l))∧Below w.heap.size w w':=by
 have HL:=Hd h.len
 have hkn:=Zfk A n c w.heap.size l w h hf
 cases hk:UV l with
 |false=>
  have HE:Hid (checkN l=1):=Hd (by simp[checkN,hk])
  rw[hk] at hkn
  go_enter Tryz.func95,Tryz.ntmps95
  go_wp2_with fail
  refine hkn.mono ?_
  rintro e w1 ⟨rfl,rfl⟩
  go_wp2_with fail
  go_ret
  exact⟨by rw[HE.out];rfl,Below.refl _ _⟩
 |true=>
  have hn:=((YH l).1 hk).1
  rw[HL.out] at hn
  rw[hk] at hkn
  cases ho:Vh l n with
  |false=>
   have HE:Hid (checkN l=9):=Hd (by simp[checkN,hk,HL.out,ho])
   have HO:=Hd ho
   clear ho hk
   go_enter Tryz.func95,Tryz.ntmps95
   go_wp2_with fail
   refine hkn.mono ?_
   rintro e w1 ⟨rfl,rfl⟩
   go_wp2_with fail
   refine(U1 A n c l w h hf (by omega)).mono ?_
   rintro e w2 ⟨he,hb2⟩
   rw[HO.out] at he
   subst he
   go_wp2_with fail
   go_ret
   exact⟨by rw[HE.out];rfl,hb2⟩
  |true=>
   have HO:=Hd ho
   cases hj:Vj l n with
   |false=>
    have HE:Hid (checkN l=7):=Hd (by simp[checkN,hk,HL.out,ho,hj])
    have HJ:=Hd hj
    clear ho hk hj
    go_enter Tryz.func95,Tryz.ntmps95
    go_wp2_with fail
    refine hkn.mono ?_
    rintro e w1 ⟨rfl,rfl⟩
    go_wp2_with fail
    refine(U1 A n c l w h hf (by omega)).mono ?_
    rintro e w2 ⟨he,hb2⟩
    rw[HO.out] at he
    subst he
    go_wp2_with fail
    refine(YK A n c w.heap.size l w2 (h.below hb2) hf).mono ?_
    rintro e w3 ⟨he,rfl⟩
    rw[HJ.out] at he
    subst he
    go_wp2_with fail
    go_ret
    exact⟨by rw[HE.out];rfl,hb2⟩
   |true=>
    have HJ:=Hd hj
    have HE:Hid (checkN l=if Vj (Zn l) n=true then 0 else 7):=Hd (by simp[checkN,hk,HL.out,ho,hj])
    have htl:=Zq l
    rw[HL.out] at htl
    have HTL:=Hd htl
    clear ho hk hj htl
    go_enter Tryz.func95,Tryz.ntmps95
    go_wp2_with fail
    refine hkn.mono ?_
    rintro e w1 ⟨rfl,rfl⟩
    go_wp2_with fail
    refine(U1 A n c l w h hf (by omega)).mono ?_
    rintro e w2 ⟨he,hb2⟩
    rw[HO.out] at he
    subst he
    have h2:=h.at_size lR hb2
    go_wp2_with fail
    refine(YK A n c w.heap.size l w2 (h.below hb2) hf).mono ?_
    rintro e w3 ⟨he,rfl⟩
    rw[HJ.out] at he
    subst he
    go_wp2_with fail
    refine(Ve A n c l w2 h2 hf (by omega)).mono ?_
    rintro e w4 ⟨rfl,hblk,hb4⟩
    have hb24:=hb2.trans (hb4.mono hb2.size)
    have hr4:=ZbC hblk HTL.out (by omega)
    clear hblk
    go_wp2_with fail
    refine(YK _ n n _ (Zn l) w4 hr4 (YJ (by have:=HL.out;omega))).mono ?_
    rintro e w5 ⟨he,rfl⟩
    cases hq:Vj (Zn l) n with
    |true=>
     rw[hq] at he HE
     subst he
     clear hq
     go_wp2_with fail
     go_ret
     exact⟨by rw[HE.out];rfl,hb24⟩
    |false=>
     rw[hq] at he HE
     subst he
     clear hq
     go_wp2_with fail
     go_ret
     exact⟨by rw[HE.out];rfl,hb24⟩
end Go.Proofs.YtfmpecnkkbpdlaaGreatDoor.La
namespace Go.Proofs.YtfmpecnkkbpdlaaGreatDoor.La
def UT (f:Nat→Nat→Bool)(s:List Nat)(x k:Nat):Bool:=(List.range k).all fun y=>f x (s.getD y 0)
theorem UM (f:Nat→Nat→Bool)(s:List Nat)(x k:Nat):UT f s x (k+1)=(UT f s x k && f x (s.getD k 0)):=by
 simp[UT,List.range_succ]
def lsK (f:Nat→Nat→Bool)(s:List Nat)(k:Nat):Bool:=(List.range k).any fun i=>UT f s (s.getD i 0) s.length
theorem Zc3 (f:Nat→Nat→Bool)(s:List Nat)(k:Nat):lsK f s (k+1)=(lsK f s k||UT f s (s.getD k 0) s.length):=by
 simp[lsK,List.range_succ]
theorem ZbE {l:List Nat}{k:Nat}(h:k < l.length):l.getD k 0∈l:=by
 rw[getD_at h]
 exact List.getElem_mem h
theorem Qp (f:Nat→Nat→Bool)(s:List Nat):lsK f s s.length=true↔ ∃x∈s,∀y∈s,f x y=true:=by
 simp only[lsK,UT,List.any_eq_true,List.all_eq_true,List.mem_range]
 constructor
 ·rintro⟨i,hi,h⟩
  refine⟨s.getD i 0,ZbE hi,fun y hy=> ?_⟩
  obtain⟨j,hj,rfl⟩:=List.mem_iff_getElem.1 hy
  have:=h j hj
  rwa [getD_at hj] at this
 ·rintro⟨x,hx,h⟩
  obtain⟨i,hi,rfl⟩:=List.mem_iff_getElem.1 hx
  refine⟨i,hi,fun j hj=> ?_⟩
  rw[getD_at hi]
  exact h _ (ZbE hj)
def pick (p:Nat→Bool)(k:Nat):List Nat:=(List.range k).filter p
theorem ZbF (p:Nat→Bool)(k:Nat):pick p (k+1)=if p k then pick p k++ [k] else pick p k:=by
 unfold pick
 rw[List.range_succ,List.filter_append]
 by_cases h:p k=true <;> simp[h]
theorem UN (p:Nat→Bool)(k x:Nat):x∈pick p k↔x < k∧p x=true:=by simp[pick]
theorem Zc4 (p:Nat→Bool)(k:Nat):(pick p k).length≤k:=by
 have:=List.length_filter_le p (List.range k)
 rwa [List.length_range] at this
theorem KC (p:Nat→Bool)(k:Nat)(h:k≤18446744073709551616):Fit (pick p k):=fun x hx=>by
 have:=((UN p k x).1 hx).1
 omega
def upsL (l:List Nat)(a b:Nat):List Nat:=pick (fun i=>Zh l a i && Zh l b i) l.length
def Vx (l:List Nat)(a b:Nat):List Nat:=pick (fun i=>Zh l i a && Zh l i b) l.length
def Uk (l:List Nat)(s:List Nat):Bool:=lsK (Zh l) s s.length
def Ul (l:List Nat)(s:List Nat):Bool:=lsK (fun x y=>Zh l y x) s s.length
def trB (l:List Nat)(i j k:Nat):Bool:= !(Zh l i j && Zh l j k && !Zh l i k)
def anB (l:List Nat)(i j:Nat):Bool:= !((i !=j) && Zh l i j && Zh l j i)
def tr3 (l:List Nat)(i j k:Nat):Bool:=(List.range k).all fun k=>trB l i j k
def tr2 (l:List Nat)(i j:Nat):Bool:=(List.range j).all fun j=>anB l i j && tr3 l i j l.length
def tr1 (l:List Nat)(i:Nat):Bool:=(List.range i).all fun i=>Zh l i i && tr2 l i l.length
def la2 (l:List Nat)(i j:Nat):Bool:=(List.range j).all fun j=>Uk l (upsL l i j) && Ul l (Vx l i j)
def la1 (l:List Nat)(i:Nat):Bool:=(List.range i).all fun i=>la2 l i l.length
theorem Zha (l:List Nat)(i j k:Nat):tr3 l i j (k+1)=(tr3 l i j k && trB l i j k):=by simp[tr3,List.range_succ]
theorem Zhb (l:List Nat)(i j:Nat):tr2 l i (j+1)=(tr2 l i j && (anB l i j && tr3 l i j l.length)):=by simp[tr2,List.range_succ]
theorem Zhc (l:List Nat)(i:Nat):tr1 l (i+1)=(tr1 l i && (Zh l i i && tr2 l i l.length)):=by simp[tr1,List.range_succ]
theorem Zhd (l:List Nat)(i j:Nat):la2 l i (j+1)=(la2 l i j && (Uk l (upsL l i j) && Ul l (Vx l i j))):=by simp[la2,List.range_succ]
theorem Zhe (l:List Nat)(i:Nat):la1 l (i+1)=(la1 l i && la2 l i l.length):=by simp[la1,List.range_succ]
theorem Ym {l:List Nat}(hn:l.length≤64){a b:Nat}(ha:a < l.length)(hb:b < l.length):Zh l a b=bt l a b:=by
 rw[Zh,decide_eq_true ⟨by omega,by omega,ha,hb⟩,Bool.true_and]
theorem Yn {l:List Nat}{a b:Nat}(h:Zh l a b=true):a < l.length∧b < l.length:=by
 by_cases g:a < 64∧b < 64∧a < l.length∧b < l.length
 ·exact g.2.2
 ·rw[Qo g] at h
  cases h
theorem Zcn {l:List Nat}(hn:l.length≤64):tr1 l l.length=true↔Ur l.length (bt l):=by
 have e: ∀{a b},a < l.length→b < l.length→Zh l a b=bt l a b:=Ym hn
 simp only[tr1,tr2,tr3,trB,anB,List.all_eq_true,List.mem_range,Bool.and_eq_true,Bool.not_eq_true',Bool.and_eq_false_iff,Bool.not_eq_false',bne_eq_false_iff_eq]
 constructor
 ·intro h
  refine⟨fun i hi=>by rw[← e hi hi];exact(h i hi).1,fun i j hi hj h1 h2=> ?_,fun i j k hi hj hk h1 h2=> ?_⟩
  ·rw[← e hi hj] at h1
   rw[← e hj hi] at h2
   rcases((h i hi).2 j hj).1 with(g|g)|g
   ·exact g
   ·rw[h1] at g;cases g
   ·rw[h2] at g;cases g
  ·rw[← e hi hj] at h1
   rw[← e hj hk] at h2
   rw[← e hi hk]
   rcases((h i hi).2 j hj).2 k hk with(g|g)|g
   ·rw[h1] at g;cases g
   ·rw[h2] at g;cases g
   ·exact g
 ·intro h i hi
  refine⟨by rw[e hi hi];exact h.refl i hi,fun j hj=>⟨?_,fun k hk=> ?_⟩⟩
  ·rw[e hi hj,e hj hi]
   cases h1:bt l i j with
   |false=>exact .inl (.inr rfl)
   |true=>
    cases h2:bt l j i with
    |false=>exact .inr rfl
    |true=>exact .inl (.inl (h.anti i j hi hj h1 h2))
  ·rw[e hi hj,e hj hk,e hi hk]
   cases h1:bt l i j with
   |false=>exact .inl (.inl rfl)
   |true=>
    cases h2:bt l j k with
    |false=>exact .inl (.inr rfl)
    |true=>exact .inr (h.on i j k hi hj hk h1 h2)
theorem Zfl {l:List Nat}(hn:l.length≤64):la1 l l.length=true↔Ups l.length (bt l)∧Ups l.length (turn (bt l)):=by
 have e: ∀{a b},a < l.length→b < l.length→Zh l a b=bt l a b:=Ym hn
 simp only[la1,la2,Uk,Ul,List.all_eq_true,List.mem_range,Bool.and_eq_true,Qp,upsL,Vx,UN]
 constructor
 ·intro h
  refine⟨fun a b ha hb=> ?_,fun a b ha hb=> ?_⟩
  ·obtain⟨⟨x,⟨hx,h1,h2⟩,h3⟩,_⟩:=h a ha b hb
   refine⟨x,hx,by rw[← e ha hx];exact h1,by rw[← e hb hx];exact h2,fun d hd g1 g2=> ?_⟩
   rw[← e hx hd]
   exact h3 d ⟨hd,by rw[e ha hd];exact g1,by rw[e hb hd];exact g2⟩
  ·obtain⟨_,x,⟨hx,h1,h2⟩,h3⟩:=h a ha b hb
   refine⟨x,hx,?_,?_,fun d hd g1 g2=> ?_⟩
   ·show bt l x a=true
    rw[← e hx ha];exact h1
   ·show bt l x b=true
    rw[← e hx hb];exact h2
   ·show bt l d x=true
    rw[← e hd hx]
    exact h3 d ⟨hd,by rw[e hd ha];exact g1,by rw[e hd hb];exact g2⟩
 ·rintro⟨h,k⟩ a ha b hb
  obtain⟨x,hx,h1,h2,h3⟩:=h a b ha hb
  obtain⟨y,hy,k1,k2,k3⟩:=k a b ha hb
  have k1:bt l y a=true:=k1
  have k2:bt l y b=true:=k2
  refine⟨⟨x,⟨hx,by rw[e ha hx];exact h1,by rw[e hb hx];exact h2⟩,fun d ⟨hd,g1,g2⟩=> ?_⟩,y,⟨hy,by rw[e hy ha];exact k1,by rw[e hy hb];exact k2⟩,fun d ⟨hd,g1,g2⟩=> ?_⟩
  ·rw[e hx hd]
   exact h3 d hd (by rw[← e ha hd];exact g1) (by rw[← e hb hd];exact g2)
  ·rw[e hd hy]
   exact k3 d hd (by rw[e hd ha] at g1;exact g1) (by rw[e hd hb] at g2;exact g2)
end Go.Proofs.YtfmpecnkkbpdlaaGreatDoor.La
