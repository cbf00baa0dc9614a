import Derived.Test.YtphklakjadchmaaGreatDoorBoApp
import Derived.Test.YtphklakjadchmaaGreatDoorBoChk
import Derived.Test.YtphklakjadchmaaGreatDoorEach
import Derived.Test.YtphklakjadchmaaGreatDoorLaOrd
namespace Go.Proofs.YtphklakjadchmaaGreatDoor.Re
open Go.Proofs.YtphklakjadchmaaGreatDoor.Bo (Bd bdc bdc_len bd_at tmv wrap_small AllRel all_step all_off)
open La (bt stepW)
def mayV (n:Nat)(v:Bool)(k:Nat):Bool:= !v||decide (k < n)
def mayB (n:Nat)(b:Bd):Bool:=mayV n b.av b.an && mayV n b.bv b.bn
def ofE (k:Int)(l:List Bd):Int:=if k < 0∨64 < k∨256 < l.length then 3 else if l.all (mayB k.toNat) then 0 else 1
def Edge (l:List Bd)(i j:Nat):Prop:= ∃b∈l,b.av=true∧b.bv=true∧b.an=i∧b.bn=j
def idK (k:Nat):List Nat:=(List.range 64).map fun i=>if i < k then 2 ^ i else 0
theorem idK_len (k:Nat):(idK k).length=64:=by simp[idK]
theorem idK_set {k:Nat}:(idK k).set k (2 ^ k)=idK (k+1):=by
 apply List.ext_getElem (by simp[idK])
 intro x h1 h2
 by_cases e:x=k
 ·subst e
  rw[List.getElem_set_self]
  simp[idK]
 ·have:(x < k+1)=(x < k):=propext ⟨fun h=>by omega,fun h=>by omega⟩
  rw[List.getElem_set_ne (by omega)]
  simp[idK,this]
theorem idK_lt (n:Nat): ∀x∈idK n,x < 2 ^ 64:=by
 intro x hx
 obtain⟨i,hi,rfl⟩:=List.mem_map.1 hx
 have hi:=List.mem_range.1 hi
 split
 ·exact Nat.pow_lt_pow_right (by decide) hi
 ·exact Nat.two_pow_pos 64
def putB (t:List Nat)(b:Bd):List Nat:=cond (b.av && b.bv) (t.set b.an (t.getD b.an 0|||2 ^ b.bn)) t
def dirN (n:Nat)(l:List Bd):List Nat:=l.foldl putB (idK n)
theorem may_var {n k:Nat}(h:mayV n true k=true):k < n:=by simpa [mayV] using h
theorem mayB_edge {n:Nat}{b:Bd}(h:mayB n b=true)(ha:b.av=true)(hb:b.bv=true):b.an < n∧b.bn < n:=by
 rw[mayB,Bool.and_eq_true,ha,hb] at h
 exact⟨may_var h.1,may_var h.2⟩
theorem putB_len (t:List Nat)(b:Bd):(putB t b).length=t.length:=by
 unfold putB
 cases b.av && b.bv <;> simp
theorem putB_lt {n:Nat}(hn:n≤64){t:List Nat}{b:Bd}(hm:mayB n b=true)(ht:t.length=64)(h: ∀x∈t,x < 2 ^ 64): ∀x∈putB t b,x < 2 ^ 64:=by
 unfold putB
 cases ha:b.av with
 |false=>simpa using h
 |true=>
  cases hb:b.bv with
  |false=>simpa using h
  |true=>
   obtain⟨h1,h2⟩:=mayB_edge hm ha hb
   intro x hx
   rcases List.mem_or_eq_of_mem_set hx with hx|rfl
   ·exact h x hx
   ·exact Nat.or_lt_two_pow (h _ (La.getD_mem (by omega))) (Nat.pow_lt_pow_right (by decide) (by omega))
theorem putB_bt {n:Nat}(hn:n≤64){t:List Nat}{b:Bd}(hm:mayB n b=true)(ht:t.length=64)(i j:Nat):bt (putB t b) i j=true↔bt t i j=true∨(b.av=true∧b.bv=true∧b.an=i∧b.bn=j):=by
 unfold putB
 cases ha:b.av with
 |false=>simp
 |true=>
  cases hb:b.bv with
  |false=>simp
  |true=>
   obtain⟨h1,h2⟩:=mayB_edge hm ha hb
   rw[Bool.true_and,cond_true,La.set_bt (by omega)]
   by_cases e:i=b.an
   ·subst e
    rw[if_pos rfl,Nat.testBit_or,Nat.testBit_two_pow,Bool.or_eq_true,decide_eq_true_iff]
    simp[bt]
   ·have: ¬b.an=i:=fun h=>e h.symm
    rw[if_neg e]
    simp[this]
theorem fold_facts {n:Nat}(hn:n≤64): ∀(l:List Bd) (t:List Nat),t.length=64→(∀x∈t,x < 2 ^ 64)→(∀b∈l,mayB n b=true)→
  (l.foldl putB t).length=64∧(∀x∈l.foldl putB t,x < 2 ^ 64)∧ ∀i j,bt (l.foldl putB t) i j=true↔bt t i j=true∨Edge l i j
 | [],t,h1,h2,_=>⟨h1,h2,fun i j=>⟨.inl,fun h=>h.elim id fun ⟨b,hb,_⟩=>by cases hb⟩⟩
 |b::l,t,h1,h2,h3=>by
  have hm:=h3 b (List.mem_cons_self ..)
  obtain⟨g1,g2,g3⟩:=fold_facts hn l (putB t b) (by rw[putB_len];exact h1) (putB_lt hn hm h1 h2) fun c hc=>h3 c (List.mem_cons_of_mem _ hc)
  refine⟨g1,g2,fun i j=> ?_⟩
  rw[List.foldl_cons,g3,putB_bt hn hm h1,or_assoc]
  refine or_congr Iff.rfl ?_
  unfold Edge
  simp only[List.mem_cons,exists_eq_or_imp]
def thrN (n:Nat)(t:List Nat):Nat→List Nat
 |0=>t
 |k+1=>stepW (thrN n t k) k n
def rchN (n:Nat)(l:List Bd):List Nat:=thrN n (dirN n l) n
section
variable {n:Nat} {l:List Bd} (hn:n≤64) (hm: ∀b∈l,mayB n b=true)
include hn hm
theorem dir_len:(dirN n l).length=64:=(fold_facts hn l _ (idK_len n) (idK_lt n) hm).1
theorem dir_lt: ∀x∈dirN n l,x < 2 ^ 64:=(fold_facts hn l _ (idK_len n) (idK_lt n) hm).2.1
end
theorem ofE_is {q:Nat}{l:List Bd}(h1:q≤64)(h2:l.length≤256)(h3: ∀b∈l,mayB q b=true):ofE (q:Int) l=0:=by
 unfold ofE
 rw[if_neg (by omega),Int.toNat_natCast,if_pos (List.all_eq_true.2 h3)]
end Go.Proofs.YtphklakjadchmaaGreatDoor.Re
namespace Go.Proofs.YtphklakjadchmaaGreatDoor
open Go.RowKit
structure Sen where
 p:List Sp
 lo:List Nat
 hi:List Nat
 be:List (List Bool)
def Sen.none:Sen:=⟨[],[],[],[]⟩
def tmL (u:List Nat)(p:Sp):Nat:=Bo.vl u p.v p.z.toNat
def alw (S:Bo.Sr)(lo hi:List Nat)(rc:Nat→Nat→Bool)(p q:Sp):Bool:=(p.v && (q.v && rc p.z.toNat q.z.toNat))||S.below (tmL hi p) (tmL lo q)
def belS (S:Bo.Sr)(lo hi:List Nat)(rc:Nat→Nat→Bool)(p q:Sp):Bool:= !decide (p.s=0) && (!decide (q.s=1) && alw S lo hi rc p q)
def lowS (S:Bo.Sr)(lo:List Nat)(p:Sp):Nat:=if p.s=1 then S.bot else tmL lo p
def highS (S:Bo.Sr)(hi:List Nat)(p:Sp):Nat:=if p.s=0 then S.top else tmL hi p
def senS (S:Bo.Sr)(lo hi:List Nat)(rc:Nat→Nat→Bool)(l:List Sp):Sen:=
 ⟨l,l.map (lowS S lo),l.map (highS S hi),l.map fun p=>l.map (belS S lo hi rc p)⟩
structure Got (S:Bo.Sr)(q:Nat)(l:List Bo.Bd)(lo hi:List Nat):Prop where
 ok:S.Ok
 q64:q≤64
 may: ∀b∈l,Bo.mayB S q b=true
 low:Bo.IsLow S q l lo
 high:Bo.IsLow S.turn q (l.map Bo.Bd.turn) hi
 hold:Bo.holdS S lo l=true
def rcB (q:Nat)(l:List Bo.Bd)(i j:Nat):Bool:=La.bt (Re.rchN q l) i j
theorem may_re {S:Bo.Sr}{q:Nat}{b:Bo.Bd}(h:Bo.mayB S q b=true):Re.mayB q b=true:=by
 unfold Bo.mayB Bo.mayT at h
 unfold Re.mayB Re.mayV
 rw[Bool.and_eq_true] at h ⊢
 obtain⟨h1,h2⟩:=h
 constructor
 ·cases hv:b.av with
  |false=>rfl
  |true=>rw[hv] at h1;simpa using h1
 ·cases hv:b.bv with
  |false=>rfl
  |true=>rw[hv] at h2;simpa using h2
section
variable {S:Bo.Sr} {q:Nat} {l:List Bo.Bd} {lo hi:List Nat} (h:Got S q l lo hi)
include h
theorem Got.has_lo {p:Sp}(hp:may1 S q p=true):S.has (tmL lo p)=true:=by
 unfold may1 Bo.mayT at hp
 unfold tmL Bo.vl
 rw[Int.toNat_natCast] at hp
 cases hv:p.v with
 |false=>rw[hv] at hp;exact hp
 |true=>
  rw[hv] at hp
  exact h.low.has.2 _ (of_decide_eq_true hp)
theorem Got.has_hi {p:Sp}(hp:may1 S q p=true):S.has (tmL hi p)=true:=by
 unfold may1 Bo.mayT at hp
 unfold tmL Bo.vl
 rw[Int.toNat_natCast] at hp
 cases hv:p.v with
 |false=>rw[hv] at hp;exact hp
 |true=>
  rw[hv] at hp
  exact h.high.has.2 _ (of_decide_eq_true hp)
theorem Got.ends {p:Sp}(hp:may1 S q p=true):S.has S.bot=true∧S.has S.top=true:=by
 have:=h.has_lo hp
 exact⟨(h.ok.sub _ _ (h.ok.botl _ this)).1,(h.ok.sub _ _ (h.ok.topl _ this)).2⟩
theorem Got.lowH {p:Sp}(hp:may1 S q p=true):S.has (lowS S lo p)=true:=by
 unfold lowS
 split
 ·exact(h.ends hp).1
 ·exact h.has_lo hp
theorem Got.highH {p:Sp}(hp:may1 S q p=true):S.has (highS S hi p)=true:=by
 unfold highS
 split
 ·exact(h.ends hp).2
 ·exact h.has_hi hp
end
end Go.Proofs.YtphklakjadchmaaGreatDoor
