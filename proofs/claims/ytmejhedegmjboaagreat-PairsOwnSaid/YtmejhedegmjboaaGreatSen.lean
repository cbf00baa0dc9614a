/- The least values are told by what they are: there is one list of them, whatever order bounds stand in; and what follows of what Solve tells. No condition. -/
/- Schemes as data: what Check tells, what Ground makes, and what follows. No condition. -/
/- Senses as data: what a scheme says of its spots, what says no more, and what follows. No condition. -/
import Derived.Test.YtmejhedegmjboaaGreatBoSlv
import Derived.Test.YtmejhedegmjboaaGreatLaw2
import Derived.Test.YtmejhedegmjboaaGreatReRch
namespace Go.Proofs.YtmejhedegmjboaaGreat.Bo
open Go.RowKit
theorem low_uniq {S:Sr}(hS:S.Ok){k:Nat}{l:List Bd}{v u:List Nat}(h:IsLow S k l v)(h':IsLow S k l u):v=u:=by
 apply List.ext_getElem (h.has.1.trans h'.has.1.symm)
 intro i h1 h2
 have hi:i < k:=by rw[← h.has.1];exact h1
 have a:=h.low u h'.has h'.led i hi
 have b:=h'.low v h.has h.led i hi
 rw[getD_at h1,getD_at h2] at a b
 exact hS.anti _ _ a b
theorem chk_is {S:Sr}{q:Nat}{l:List Bd}(hq:q≤64)(hl:l.length≤256)(hm: ∀b∈l,mayB S q b=true):chkS S (q:Int) l=0:=by
 unfold chkS
 rw[if_neg (show ¬((q:Int) < 0∨64 < (q:Int)∨256 < l.length) by omega),Int.toNat_natCast,List.all_eq_true.2 hm]
 rfl
theorem solve_fit {S:Sr}(hS:S.Ok){k:Int}{l:List Bd}{x:Int}{lo hi:List Nat}(h:SolveIs S k l x lo hi):La.Fit lo∧La.Fit hi:=by
 rcases h with⟨c1,n1,rfl,rfl⟩|⟨q,e,c1,rfl,rfl,rfl,no⟩|⟨q,e,c1,rfl,h1,h2,h3⟩
 ·exact⟨(fun _ h=>by cases h),fun _ h=>by cases h⟩
 ·exact⟨(fun _ h=>by cases h),fun _ h=>by cases h⟩
 ·exact⟨all_fit hS h1.has,all_fit hS.turn h2.has⟩
theorem high_hold {S:Sr}(hS:S.Ok){k:Nat}{l:List Bd}{v u:List Nat}(hl: ∀b∈l,mayB S k b=true)(hv:IsLow S.turn k (l.map Bd.turn) v)(hu:AllHas S k u)(h:holdS S u l=true):holdS S v l=true:=by
 have ht: ∀z,holdS S.turn z (l.map Bd.turn)=holdS S z l:=fun z=>by
  unfold holdS
  rw[List.all_map]
  congr 1
  funext b
  simp only[Function.comp,okB,Bd.turn,Sr.turn]
  rw[Bool.and_comm (okT z b.bv b.bn)]
 rw[← ht]
 exact low_hold hS.turn (may_turn hl) hv hu (by rw[ht];exact h)
theorem hold_turn {S:Sr}{z:List Nat}{l:List Bd}:holdS S.turn z (l.map Bd.turn)=holdS S z l:=by
 unfold holdS
 rw[List.all_map]
 congr 1
 funext b
 simp only[Function.comp,okB,Bd.turn,Sr.turn]
 rw[Bool.and_comm (okT z b.bv b.bn)]
theorem between {S:Sr}{k:Nat}{l:List Bd}{lo hi u:List Nat}(h1:IsLow S k l lo)(h2:IsLow S.turn k (l.map Bd.turn) hi)(hu:AllHas S k u)(h:holdS S u l=true): ∀i,i < k→S.below (lo.getD i 0) (u.getD i 0)=true∧S.below (u.getD i 0) (hi.getD i 0)=true:=fun i hi'=>
 ⟨h1.low u hu (hold_led h) i hi',h2.low u hu (hold_led (by rw[hold_turn];exact h)) i hi'⟩
end Go.Proofs.YtmejhedegmjboaaGreat.Bo
namespace Go.Proofs.YtmejhedegmjboaaGreat
open Go.RowKit
structure Sch where
 lv:Int
 ev:Int
 b:List Nd
 l:List Bo.Bd
 e:List Bo.Bd
def bnd (p:Sp):Bo.Bd:=⟨p.v,p.z.toNat,p.v,p.z.toNat⟩
def orE (a b:Int):Int:=if a=0 then b else a
def Sch.check (S X:Bo.Sr)(s:Sch):Int:=
 if checkB s.b=0 then orE (Bo.chkS S s.lv s.l) (orE (Bo.chkS X s.ev s.e) (orE (Bo.chkS S s.lv ((labB s.b).map bnd)) (Bo.chkS X s.ev ((effB s.b).map bnd)))) else(checkB s.b:Int)
theorem orE_zero {a b:Int}:orE a b=0↔a=0∧b=0:=by
 unfold orE
 split
 ·simp_all
 ·simp_all
def may1 (S:Bo.Sr)(k:Int)(p:Sp):Bool:=Bo.mayT S k.toNat p.v p.z.toNat
theorem mayB_bnd (S:Bo.Sr)(k:Nat)(p:Sp):Bo.mayB S k (bnd p)=Bo.mayT S k p.v p.z.toNat:=by
 simp[Bo.mayB,bnd]
theorem chk_zero {S:Bo.Sr}{k:Int}{l:List Bo.Bd}:Bo.chkS S k l=0↔0≤k∧k≤64∧l.length≤256∧ ∀b∈l,Bo.mayB S k.toNat b=true:=by
 unfold Bo.chkS
 split
 ·rename_i h
  constructor
  ·intro e;cases e
  ·rintro⟨h1,h2,h3,-⟩;omega
 ·rename_i h
  split
  ·rename_i h2
   exact⟨fun _=>⟨by omega,by omega,by omega,fun b hb=>List.all_eq_true.1 h2 b hb⟩,fun _=>rfl⟩
  ·rename_i h2
   constructor
   ·intro e;cases e
   ·rintro⟨-,-,-,h3⟩
    exact absurd (List.all_eq_true.2 h3) h2
theorem chk_bnd {S:Bo.Sr}{k:Int}{l:List Sp}(hl:l.length≤256):Bo.chkS S k (l.map bnd)=0↔0≤k∧k≤64∧ ∀p∈l,may1 S k p=true:=by
 rw[chk_zero,List.length_map]
 constructor
 ·rintro⟨h1,h2,-,h3⟩
  refine⟨h1,h2,fun p hp=> ?_⟩
  have:=h3 (bnd p) (List.mem_map_of_mem hp)
  rwa [mayB_bnd] at this
 ·rintro⟨h1,h2,h3⟩
  refine⟨h1,h2,hl,fun b hb=> ?_⟩
  obtain⟨p,hp,rfl⟩:=List.mem_map.1 hb
  rw[mayB_bnd]
  exact h3 p hp
theorem Sch.check_is {S X:Bo.Sr}{s:Sch}:s.check S X=0↔checkB s.b=0∧Bo.chkS S s.lv s.l=0∧Bo.chkS X s.ev s.e=0∧(∀p∈labB s.b,may1 S s.lv p=true)∧ ∀p∈effB s.b,may1 X s.ev p=true:=by
 have h1:=labB_len s.b
 have h2:(effB s.b).length≤256:=Nat.le_trans (effB_len s.b) (by decide)
 unfold Sch.check
 split
 ·rename_i h0
  rw[orE_zero,orE_zero,orE_zero,chk_bnd h1,chk_bnd h2]
  constructor
  ·rintro⟨a,b,⟨-,-,c⟩,-,-,d⟩
   exact⟨h0,a,b,c,d⟩
  ·rintro⟨-,a,b,c,d⟩
   obtain⟨a1,a2,-⟩:=chk_zero.1 a
   obtain⟨b1,b2,-⟩:=chk_zero.1 b
   exact⟨a,b,⟨a1,a2,c⟩,b1,b2,d⟩
 ·rename_i h0
  constructor
  ·intro e;omega
  ·rintro⟨a,-⟩;exact absurd a h0
end Go.Proofs.YtmejhedegmjboaaGreat
namespace Go.Proofs.YtmejhedegmjboaaGreat
open Go.RowKit
structure Sen where
 p:List Sp
 lo:List Nat
 hi:List Nat
 be:List (List Bool)
def Sen.none:Sen:=⟨[],[],[],[]⟩
def tmL (u:List Nat)(p:Sp):Nat:=Bo.vl u p.v p.z.toNat
def alw (S:Bo.Sr)(lo hi:List Nat)(rc:Nat→Nat→Bool)(p q:Sp):Bool:=(p.v && (q.v && rc p.z.toNat q.z.toNat))||S.below (tmL hi p) (tmL lo q)
def belS (S:Bo.Sr)(lo hi:List Nat)(rc:Nat→Nat→Bool)(p q:Sp):Bool:= !decide (p.s=0) && (!decide (q.s=1) && alw S lo hi rc p q)
def lowS (S:Bo.Sr)(lo:List Nat)(p:Sp):Nat:=if p.s=1 then S.bot else tmL lo p
def highS (S:Bo.Sr)(hi:List Nat)(p:Sp):Nat:=if p.s=0 then S.top else tmL hi p
def senS (S:Bo.Sr)(lo hi:List Nat)(rc:Nat→Nat→Bool)(l:List Sp):Sen:=
 ⟨l,l.map (lowS S lo),l.map (highS S hi),l.map fun p=>l.map (belS S lo hi rc p)⟩
def wholeS (z:Sen):Bool:=decide (z.lo.length=z.p.length) && (decide (z.hi.length=z.p.length) && (decide (z.be.length=z.p.length) && (!z.p.any (fun p=>decide (2 < p.s)) && !z.be.any (fun r=> !decide (r.length=z.p.length)))))
theorem whole_iff {z:Sen}:wholeS z=true↔z.lo.length=z.p.length∧z.hi.length=z.p.length∧z.be.length=z.p.length∧(∀p∈z.p,p.s≤2)∧ ∀r∈z.be,r.length=z.p.length:=by
 unfold wholeS
 simp only[Bool.and_eq_true,decide_eq_true_eq,Bool.not_eq_true',List.any_eq_false,decide_eq_false_iff_not,Nat.not_lt,Decidable.not_not]
structure Got (S:Bo.Sr)(q:Nat)(l:List Bo.Bd)(lo hi:List Nat):Prop where
 ok:S.Ok
 q64:q≤64
 may: ∀b∈l,Bo.mayB S q b=true
 low:Bo.IsLow S q l lo
 high:Bo.IsLow S.turn q (l.map Bo.Bd.turn) hi
 hold:Bo.holdS S lo l=true
def rcB (q:Nat)(l:List Bo.Bd)(i j:Nat):Bool:=La.bt (Re.rchN q l) i j
theorem may_re {S:Bo.Sr}{q:Nat}{b:Bo.Bd}(h:Bo.mayB S q b=true):Re.mayB q b=true:=by
 unfold Bo.mayB Bo.mayT at h
 unfold Re.mayB Re.mayV
 rw[Bool.and_eq_true] at h ⊢
 obtain⟨h1,h2⟩:=h
 constructor
 ·cases hv:b.av with
  |false=>rfl
  |true=>rw[hv] at h1;simpa using h1
 ·cases hv:b.bv with
  |false=>rfl
  |true=>rw[hv] at h2;simpa using h2
section
variable {S:Bo.Sr} {q:Nat} {l:List Bo.Bd} {lo hi:List Nat} (h:Got S q l lo hi)
include h
theorem Got.mayR: ∀b∈l,Re.mayB q b=true:=fun b hb=>may_re (h.may b hb)
theorem Got.has_lo {p:Sp}(hp:may1 S q p=true):S.has (tmL lo p)=true:=by
 unfold may1 Bo.mayT at hp
 unfold tmL Bo.vl
 rw[Int.toNat_natCast] at hp
 cases hv:p.v with
 |false=>rw[hv] at hp;exact hp
 |true=>
  rw[hv] at hp
  exact h.low.has.2 _ (of_decide_eq_true hp)
theorem Got.has_hi {p:Sp}(hp:may1 S q p=true):S.has (tmL hi p)=true:=by
 unfold may1 Bo.mayT at hp
 unfold tmL Bo.vl
 rw[Int.toNat_natCast] at hp
 cases hv:p.v with
 |false=>rw[hv] at hp;exact hp
 |true=>
  rw[hv] at hp
  exact h.high.has.2 _ (of_decide_eq_true hp)
theorem Got.holdH:Bo.holdS S hi l=true:=Bo.high_hold h.ok h.may h.high h.low.has h.hold
theorem Got.betw {u:List Nat}(hu:Bo.AllHas S q u)(hh:Bo.holdS S u l=true){p:Sp}(hp:may1 S q p=true):S.below (tmL lo p) (tmL u p)=true∧S.below (tmL u p) (tmL hi p)=true:=by
 unfold may1 Bo.mayT at hp
 unfold tmL Bo.vl
 rw[Int.toNat_natCast] at hp
 cases hv:p.v with
 |false=>rw[hv] at hp;exact⟨h.ok.refl _ hp,h.ok.refl _ hp⟩
 |true=>
  rw[hv] at hp
  exact Bo.between h.low h.high hu hh _ (of_decide_eq_true hp)
theorem Got.lohi {p:Sp}(hp:may1 S q p=true):S.below (tmL lo p) (tmL hi p)=true:=(h.betw h.low.has h.hold hp).2
theorem Got.reach {u:List Nat}(hu:Bo.AllHas S q u)(hh:Bo.holdS S u l=true){i j:Nat}(hr:rcB q l i j=true):S.below (u.getD i 0) (u.getD j 0)=true:=by
 have:=Re.rch_least h.q64 h.mayR (T:=fun i j=>S.below (u.getD i 0) (u.getD j 0)=true) (fun i hi=>h.ok.refl _ (hu.2 i hi)) (fun i j g=> ?_) (fun i j k=>h.ok.trans _ _ _) hr
 ·exact this
 ·obtain⟨b,hb,h1,h2,rfl,rfl⟩:=g
  have:=List.all_eq_true.1 hh b hb
  unfold Bo.okB at this
  rw[Bool.and_eq_true,h1,h2] at this
  exact this.2
theorem Got.alw {u:List Nat}(hu:Bo.AllHas S q u)(hh:Bo.holdS S u l=true){p r:Sp}(hp:may1 S q p=true)(hr:may1 S q r=true)(ha:alw S lo hi (rcB q l) p r=true):S.below (tmL u p) (tmL u r)=true:=by
 unfold Go.Proofs.YtmejhedegmjboaaGreat.alw at ha
 rw[Bool.or_eq_true] at ha
 rcases ha with ha|ha
 ·simp only[Bool.and_eq_true] at ha
  obtain⟨h1,h2,h3⟩:=ha
  unfold tmL Bo.vl
  rw[h1,h2]
  exact h.reach hu hh h3
 ·exact h.ok.trans _ _ _ (h.betw hu hh hp).2 (h.ok.trans _ _ _ ha (h.betw hu hh hr).1)
theorem Got.self {p:Sp}(hp:may1 S q p=true):Go.Proofs.YtmejhedegmjboaaGreat.alw S lo hi (rcB q l) p p=true:=by
 unfold Go.Proofs.YtmejhedegmjboaaGreat.alw
 unfold may1 Bo.mayT at hp
 rw[Int.toNat_natCast] at hp
 cases hv:p.v with
 |true=>
  rw[hv] at hp
  rw[show rcB q l p.z.toNat p.z.toNat=true from Re.rch_self h.q64 h.mayR (of_decide_eq_true hp)]
  rfl
 |false=>
  rw[hv] at hp
  unfold tmL Bo.vl
  rw[hv]
  simpa using h.ok.refl _ hp
theorem Got.on {p r s:Sp}(hp:may1 S q p=true)(hr:may1 S q r=true)(hs:may1 S q s=true)(h1:Go.Proofs.YtmejhedegmjboaaGreat.alw S lo hi (rcB q l) p r=true)(h2:Go.Proofs.YtmejhedegmjboaaGreat.alw S lo hi (rcB q l) r s=true):Go.Proofs.YtmejhedegmjboaaGreat.alw S lo hi (rcB q l) p s=true:=by
 have g1:=h.alw h.high.has h.holdH hp hr h1
 have g2:=h.alw h.low.has h.hold hr hs h2
 have g3:=h.lohi hr
 unfold Go.Proofs.YtmejhedegmjboaaGreat.alw at h1 h2 ⊢
 rw[Bool.or_eq_true] at h1 h2 ⊢
 rcases h1 with h1|h1
 ·rcases h2 with h2|h2
  ·simp only[Bool.and_eq_true] at h1 h2 ⊢
   exact .inl ⟨h1.1,h2.2.1,Re.rch_on h.q64 h.mayR h1.2.2 h2.2.2⟩
  ·exact .inr (h.ok.trans _ _ _ g1 h2)
 ·exact .inr (h.ok.trans _ _ _ h1 g2)
theorem Got.ends {p:Sp}(hp:may1 S q p=true):S.has S.bot=true∧S.has S.top=true:=by
 have:=h.has_lo hp
 exact⟨(h.ok.sub _ _ (h.ok.botl _ this)).1,(h.ok.sub _ _ (h.ok.topl _ this)).2⟩
theorem Got.lowH {p:Sp}(hp:may1 S q p=true):S.has (lowS S lo p)=true:=by
 unfold lowS
 split
 ·exact(h.ends hp).1
 ·exact h.has_lo hp
theorem Got.highH {p:Sp}(hp:may1 S q p=true):S.has (highS S hi p)=true:=by
 unfold highS
 split
 ·exact(h.ends hp).2
 ·exact h.has_hi hp
end
theorem sen_whole {S:Bo.Sr}{lo hi:List Nat}{rc:Nat→Nat→Bool}{l:List Sp}(hs: ∀p∈l,p.s≤2):wholeS (senS S lo hi rc l)=true:=by
 refine whole_iff.2 ⟨by simp[senS],by simp[senS],by simp[senS],hs,fun r hr=> ?_⟩
 obtain⟨p,-,rfl⟩:=List.mem_map.1 hr
 simp[senS]
end Go.Proofs.YtmejhedegmjboaaGreat
