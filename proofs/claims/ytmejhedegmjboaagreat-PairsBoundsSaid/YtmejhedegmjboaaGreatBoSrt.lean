import Derived.Test.YtmejhedegmjboaaGreatEfEff
import Derived.Test.YtmejhedegmjboaaGreatLaLat
set_option maxRecDepth 100000
namespace Go.Proofs.YtmejhedegmjboaaGreat.Bo
open Go.RowKit
structure Sr where
 has:Nat→Bool
 below:Nat→Nat→Bool
 join:Nat→Nat→Nat
 meet:Nat→Nat→Nat
 bot:Nat
 top:Nat
def Sr.turn (S:Sr):Sr:=⟨S.has,fun a b=>S.below b a,S.meet,S.join,S.top,S.bot⟩
structure Sr.Ok (S:Sr):Prop where
 fit: ∀a,S.has a=true→a < 18446744073709551616
 fitb:S.bot < 18446744073709551616
 fitt:S.top < 18446744073709551616
 sub: ∀a b,S.below a b=true→S.has a=true∧S.has b=true
 refl: ∀a,S.has a=true→S.below a a=true
 anti: ∀a b,S.below a b=true→S.below b a=true→a=b
 trans: ∀a b c,S.below a b=true→S.below b c=true→S.below a c=true
 joinA: ∀a b,S.has a=true→S.has b=true→S.below a (S.join a b)=true
 joinB: ∀a b,S.has a=true→S.has b=true→S.below b (S.join a b)=true
 joinL: ∀a b c,S.below a c=true→S.below b c=true→S.below (S.join a b) c=true
 meetA: ∀a b,S.has a=true→S.has b=true→S.below (S.meet a b) a=true
 meetB: ∀a b,S.has a=true→S.has b=true→S.below (S.meet a b) b=true
 meetG: ∀a b c,S.below c a=true→S.below c b=true→S.below c (S.meet a b)=true
 botl: ∀a,S.has a=true→S.below S.bot a=true
 topl: ∀a,S.has a=true→S.below a S.top=true
 rk: ∃r:Nat→Nat,(∀a,r a≤64)∧ ∀a b,S.below a b=true→a≠b→r a < r b
theorem Sr.Ok.turn {S:Sr}(h:S.Ok):S.turn.Ok where
 fit:=h.fit
 fitb:=h.fitt
 fitt:=h.fitb
 sub:=fun a b k=>(h.sub b a k).symm
 refl:=h.refl
 anti:=fun a b k1 k2=>h.anti a b k2 k1
 trans:=fun a b c k1 k2=>h.trans c b a k2 k1
 joinA:=h.meetA
 joinB:=h.meetB
 joinL:=h.meetG
 meetA:=h.joinA
 meetB:=h.joinB
 meetG:=h.joinL
 botl:=h.topl
 topl:=h.botl
 rk:=by(
 obtain⟨r,h1,h2⟩:=h.rk
 refine⟨fun a=>64 - r a,fun a=>Nat.sub_le 64 (r a),fun a b k hne=> ?_⟩
 have:=h2 b a k (Ne.symm hne)
 have:=h1 a
 have:=h1 b
 show 64 - r a < 64 - r b
 omega)
def dead:Sr:=⟨fun _=>false,fun _ _=>false,fun _ _=>0,fun _ _=>0,0,0⟩
theorem ZgR:dead.Ok where
 fit:=fun a h=>by cases h
 fitb:=by decide
 fitt:=by decide
 sub:=fun a b h=>by cases h
 refl:=fun a h=>by cases h
 anti:=fun a b h=>by cases h
 trans:=fun a b c h=>by cases h
 joinA:=fun a b h=>by cases h
 joinB:=fun a b h=>by cases h
 joinL:=fun a b c h=>by cases h
 meetA:=fun a b h=>by cases h
 meetB:=fun a b h=>by cases h
 meetG:=fun a b c h=>by cases h
 botl:=fun a h=>by cases h
 topl:=fun a h=>by cases h
 rk:=⟨fun _=>0,fun _=>Nat.zero_le _,fun a b h=>by cases h⟩
def laS (l:List Nat):Sr:=⟨fun a=>decide (a < l.length),La.Zj l,La.Vt l l.length,La.Vt (La.Zo l) l.length,La.endN l l.length,La.endN (La.Zo l) l.length⟩
theorem ZiJ {l:List Nat}(h:La.QX l){a b:Nat}:La.Zj l a b=true↔a < l.length∧b < l.length∧La.bt l a b=true:=by
 have h64:=h.known.1.2
 unfold La.Zj
 rw[Bool.and_eq_true,decide_eq_true_eq]
 constructor
 ·rintro⟨⟨-,-,h1,h2⟩,h3⟩
  exact⟨h1,h2,h3⟩
 ·rintro⟨h1,h2,h3⟩
  exact⟨⟨by omega,by omega,h1,h2⟩,h3⟩
def rkN (n:Nat)(R:Nat→Nat→Bool)(a:Nat):Nat:=((List.range n).filter fun i=>R i a).length
theorem Zmo (n:Nat)(R:Nat→Nat→Bool)(a:Nat):rkN n R a≤n:=by
 have:=List.length_filter_le (fun i=>R i a) (List.range n)
 rw[List.length_range] at this
 exact this
theorem filter_lt {α:Type}(p q:α→Bool): ∀l:List α,(∀x∈l,p x=true→q x=true)→(∃x∈l,p x=false∧q x=true)→(l.filter p).length < (l.filter q).length
 | [],_,⟨x,hx,_⟩=>by cases hx
 |y::l,h,⟨x,hx,h1,h2⟩=>by(
 have hle: ∀m:List α,(∀x∈m,p x=true→q x=true)→(m.filter p).length≤(m.filter q).length:=by(
 intro m hm
 induction m with
 |nil=>exact Nat.le_refl _
 |cons z m ih=>(
 have ih:=ih fun x hx=>hm x (List.mem_cons_of_mem _ hx)
 have hz:=hm z (List.mem_cons_self ..)
 rw[List.filter_cons,List.filter_cons]
 cases hp:p z with
 |true=>rw[hz hp];simpa using ih
 |false=>cases q z <;> simp <;> omega))
 rw[List.filter_cons,List.filter_cons]
 rcases List.mem_cons.1 hx with rfl|hx
 ·rw[h1,h2]
  have:=hle l fun x hx=>h x (List.mem_cons_of_mem _ hx)
  simp
  omega
 ·(
 have ih:=filter_lt p q l (fun x hx=>h x (List.mem_cons_of_mem _ hx)) ⟨x,hx,h1,h2⟩
 have hy:=h y (List.mem_cons_self ..)
 cases hp:p y with
 |true=>rw[hy hp];simpa using ih
 |false=>cases q y <;> simp <;> omega))
theorem Zng {l:List Nat}(h:La.QX l):(laS l).Ok:=by
 have h64:=h.known.1.2
 have hp:=h.known.1.1
 have has: ∀a,(laS l).has a=true↔a < l.length:=fun a=>decide_eq_true_iff
 have bel: ∀a b,(laS l).below a b=true↔a < l.length∧b < l.length∧La.bt l a b=true:=fun a b=>ZiJ h
 have hj:=fun {a b} ha hb=>La.ZfT h (a:=a) (b:=b) ha hb
 have hm:=fun {a b} ha hb=>La.ZkC h (a:=a) (b:=b) ha hb
 have hbo:=La.Zc9 h
 have hto:=La.ZfU h
 constructor
 ·intro a ha
  have:=(has a).1 ha
  omega
 ·have:=hbo.lt
  show La.endN l l.length < _
  omega
 ·have:=hto.lt
  show La.endN (La.Zo l) l.length < _
  omega
 ·intro a b k
  obtain⟨h1,h2,-⟩:=(bel a b).1 k
  exact⟨(has a).2 h1,(has b).2 h2⟩
 ·intro a ha
  have:=(has a).1 ha
  exact(bel a a).2 ⟨this,this,h.ord.refl a this⟩
 ·intro a b k1 k2
  obtain⟨h1,h2,h3⟩:=(bel a b).1 k1
  exact h.ord.anti a b h1 h2 h3 ((bel b a).1 k2).2.2
 ·intro a b c k1 k2
  obtain⟨h1,h2,h3⟩:=(bel a b).1 k1
  obtain⟨-,h4,h5⟩:=(bel b c).1 k2
  exact(bel a c).2 ⟨h1,h4,h.ord.on a b c h1 h2 h4 h3 h5⟩
 ·intro a b ka kb
  have ha:=(has a).1 ka
  have hb:=(has b).1 kb
  exact(bel _ _).2 ⟨ha,(hj ha hb).lt,(hj ha hb).fst⟩
 ·intro a b ka kb
  have ha:=(has a).1 ka
  have hb:=(has b).1 kb
  exact(bel _ _).2 ⟨hb,(hj ha hb).lt,(hj ha hb).snd⟩
 ·intro a b c k1 k2
  obtain⟨h1,h2,h3⟩:=(bel a c).1 k1
  obtain⟨h4,-,h5⟩:=(bel b c).1 k2
  exact(bel _ _).2 ⟨(hj h1 h4).lt,h2,(hj h1 h4).least c h2 h3 h5⟩
 ·intro a b ka kb
  have ha:=(has a).1 ka
  have hb:=(has b).1 kb
  exact(bel _ _).2 ⟨(hm ha hb).lt,ha,(hm ha hb).fst⟩
 ·intro a b ka kb
  have ha:=(has a).1 ka
  have hb:=(has b).1 kb
  exact(bel _ _).2 ⟨(hm ha hb).lt,hb,(hm ha hb).snd⟩
 ·intro a b c k1 k2
  obtain⟨h1,h2,h3⟩:=(bel c a).1 k1
  obtain⟨-,h4,h5⟩:=(bel c b).1 k2
  exact(bel _ _).2 ⟨h1,(hm h2 h4).lt,(hm h2 h4).least c h1 h3 h5⟩
 ·intro a ka
  have ha:=(has a).1 ka
  exact(bel _ _).2 ⟨hbo.lt,ha,hbo.all a ha⟩
 ·intro a ka
  have ha:=(has a).1 ka
  exact(bel _ _).2 ⟨ha,hto.lt,hto.all a ha⟩
 ·(
 refine⟨rkN l.length (La.bt l),fun a=>Nat.le_trans (Zmo _ _ _) h64,fun a b k hne=> ?_⟩
 obtain⟨h1,h2,h3⟩:=(bel a b).1 k
 refine filter_lt _ _ _ (fun i hi hia=> ?_) ⟨b,List.mem_range.2 h2,?_,h.ord.refl b h2⟩
 ·exact h.ord.on i a b (List.mem_range.1 hi) h1 h2 hia h3
 ·exact Bool.eq_false_iff.2 fun e=>hne (h.ord.anti a b h1 h2 h3 e))
def efS (m:Bool)(t:Nat):Sr:=⟨Ef.hasE m t,Ef.Qe m t,Ef.Zfb m t,Ef.Zfc m t,0,t⟩
def rkE (a:Nat):Nat:=((List.range 64).filter fun i=>a.testBit i).length
theorem ZiK {t a b:Nat}:Ef.Qe true t a b=true↔Ef.subB a t=true∧Ef.subB b t=true∧Ef.subB a b=true:=by
 simp[Ef.Qe,Ef.Kw,and_assoc]
theorem ZgS {a b c:Nat}(h:Ef.subB a b=true)(k:Ef.subB b c=true):Ef.subB a c=true:=
 (Ef.Zy a c).2 fun i hi=>(Ef.Zy b c).1 k i ((Ef.Zy a b).1 h i hi)
theorem Zdy {a b:Nat}(h:Ef.subB a b=true)(k:Ef.subB b a=true):a=b:=
 Nat.eq_of_testBit_eq fun i=>Bool.eq_iff_iff.2 ⟨(Ef.Zy a b).1 h i,(Ef.Zy b a).1 k i⟩
theorem sub_lt {a t:Nat}(h:Ef.subB a t=true)(ht:t < 18446744073709551616):a < 18446744073709551616:=by
 have e:a|||t=t:=by simpa [Ef.subB] using h
 exact Nat.lt_of_le_of_lt (by rw[← e];exact Nat.left_le_or) ht
theorem Znh (m:Bool){t:Nat}(ht:t < 18446744073709551616):(efS m t).Ok:=by
 cases m with
 |false=>(
 constructor
 ·intro a h;cases h
 ·exact Nat.zero_lt_succ _
 ·exact ht
 ·intro a b h;cases h
 ·intro a h;cases h
 ·intro a b h;cases h
 ·intro a b c h;cases h
 ·intro a b h;cases h
 ·intro a b h;cases h
 ·intro a b c h;cases h
 ·intro a b h;cases h
 ·intro a b h;cases h
 ·intro a b c h;cases h
 ·intro a h;cases h
 ·intro a h;cases h
 ·exact⟨fun _=>0,fun _=>Nat.zero_le _,fun a b h=>by cases h⟩)
 |true=>(
 have has: ∀a,(efS true t).has a=true↔Ef.subB a t=true:=fun a=>by simp[efS,Ef.hasE]
 have bel: ∀a b,(efS true t).below a b=true↔Ef.subB a t=true∧Ef.subB b t=true∧Ef.subB a b=true:=fun a b=>ZiK
 have hj: ∀a b,Ef.subB a t=true→Ef.subB b t=true→(efS true t).join a b=a|||b:=fun a b h k=>by simp[efS,Ef.Zfb,Ef.Kw,h,k]
 have hm: ∀a b,Ef.subB a t=true→Ef.subB b t=true→(efS true t).meet a b=a &&& b:=fun a b h k=>by simp[efS,Ef.Zfc,Ef.Kw,h,k]
 have jb:=fun a b c=>Ef.ZdP a b c
 have mb:=fun a b c=>Ef.ZdQ a b c
 have jl: ∀a b,Ef.subB a (a|||b)=true∧Ef.subB b (a|||b)=true:=fun a b=>by(
 have:=jb a b (a|||b)
 rw[Ef.sub_self,Bool.and_eq_true] at this
 exact this)
 have ml: ∀a b,Ef.subB (a &&& b) a=true∧Ef.subB (a &&& b) b=true:=fun a b=>by(
 have:=mb a b (a &&& b)
 rw[Ef.sub_self,Bool.and_eq_true] at this
 exact this)
 constructor
 ·intro a h
  exact sub_lt ((has a).1 h) ht
 ·exact Nat.zero_lt_succ _
 ·exact ht
 ·intro a b h
  obtain⟨h1,h2,-⟩:=(bel a b).1 h
  exact⟨(has a).2 h1,(has b).2 h2⟩
 ·intro a h
  have h:=(has a).1 h
  exact(bel a a).2 ⟨h,h,Ef.sub_self a⟩
 ·intro a b h k
  exact Zdy ((bel a b).1 h).2.2 ((bel b a).1 k).2.2
 ·intro a b c h k
  obtain⟨h1,h2,h3⟩:=(bel a b).1 h
  obtain⟨-,h4,h5⟩:=(bel b c).1 k
  exact(bel a c).2 ⟨h1,h4,ZgS h3 h5⟩
 ·(
 intro a b h k
 have h:=(has a).1 h
 have k:=(has b).1 k
 rw[hj a b h k]
 exact(bel _ _).2 ⟨h,Ef.Zfa h k,(jl a b).1⟩)
 ·(
 intro a b h k
 have h:=(has a).1 h
 have k:=(has b).1 k
 rw[hj a b h k]
 exact(bel _ _).2 ⟨k,Ef.Zfa h k,(jl a b).2⟩)
 ·(
 intro a b c h k
 obtain⟨h1,h2,h3⟩:=(bel a c).1 h
 obtain⟨h4,-,h5⟩:=(bel b c).1 k
 rw[hj a b h1 h4]
 refine(bel _ _).2 ⟨Ef.Zfa h1 h4,h2,?_⟩
 rw[← jb,h3,h5]
 rfl)
 ·(
 intro a b h k
 have h:=(has a).1 h
 have k:=(has b).1 k
 rw[hm a b h k]
 exact(bel _ _).2 ⟨Ef.ZbS h,h,(ml a b).1⟩)
 ·(
 intro a b h k
 have h:=(has a).1 h
 have k:=(has b).1 k
 rw[hm a b h k]
 exact(bel _ _).2 ⟨Ef.ZbS h,k,(ml a b).2⟩)
 ·(
 intro a b c h k
 obtain⟨h1,h2,h3⟩:=(bel c a).1 h
 obtain⟨-,h4,h5⟩:=(bel c b).1 k
 rw[hm a b h2 h4]
 refine(bel _ _).2 ⟨h1,Ef.ZbS h2,?_⟩
 rw[← mb,h3,h5]
 rfl)
 ·intro a h
  exact(bel _ _).2 ⟨Ef.sub_zero t,(has a).1 h,Ef.sub_zero a⟩
 ·intro a h
  have h:=(has a).1 h
  exact(bel _ _).2 ⟨h,Ef.sub_self t,h⟩
 ·(
 refine⟨rkE,fun a=> ?_,fun a b h hne=> ?_⟩
 ·have:=List.length_filter_le (fun i=>a.testBit i) (List.range 64)
  rw[List.length_range] at this
  exact this
 ·(
 obtain⟨h1,h2,h3⟩:=(bel a b).1 h
 have hb:=sub_lt h2 ht
 refine filter_lt _ _ _ (fun i _ hi=>(Ef.Zy a b).1 h3 i hi) ?_
 refine Classical.byContradiction fun hno=>hne (Zdy h3 ((Ef.Zy b a).2 fun i hi=> ?_))
 cases e:a.testBit i with
 |true=>rfl
 |false=>(
 have hi64:i < 64:=Nat.lt_of_not_le fun hle=>by(
 have:b < 2 ^ i:=Nat.lt_of_lt_of_le hb (Nat.pow_le_pow_right (n:=2) (by decide) hle)
 rw[Nat.testBit_lt_two_pow this] at hi
 cases hi)
 exact absurd ⟨i,List.mem_range.2 hi64,e,hi⟩ hno))))
structure Ans (w:World)(fh fl fj fm fb ft:Nat)(p:Value)(S:Sr):Prop where
 has: ∀W,Below w.heap.size w W→ ∀x:Nat,x < 18446744073709551616→Calls Tryz.prog fh #[p,.int .u64 (x:Int)] W fun e w'=>e= .returned (.bool (S.has x))∧Below W.heap.size W w'
 below: ∀W,Below w.heap.size w W→ ∀x y:Nat,x < 18446744073709551616→y < 18446744073709551616→Calls Tryz.prog fl #[p,.int .u64 (x:Int),.int .u64 (y:Int)] W fun e w'=>e= .returned (.bool (S.below x y))∧Below W.heap.size W w'
 join: ∀W,Below w.heap.size w W→ ∀x y:Nat,x < 18446744073709551616→y < 18446744073709551616→Calls Tryz.prog fj #[p,.int .u64 (x:Int),.int .u64 (y:Int)] W fun e w'=>e= .returned (.int .u64 (S.join x y:Int))∧Below W.heap.size W w'
 meet: ∀W,Below w.heap.size w W→ ∀x y:Nat,x < 18446744073709551616→y < 18446744073709551616→Calls Tryz.prog fm #[p,.int .u64 (x:Int),.int .u64 (y:Int)] W fun e w'=>e= .returned (.int .u64 (S.meet x y:Int))∧Below W.heap.size W w'
 bot: ∀W,Below w.heap.size w W→Calls Tryz.prog fb #[p] W fun e w'=>e= .returned (.int .u64 (S.bot:Int))∧Below W.heap.size W w'
 top: ∀W,Below w.heap.size w W→Calls Tryz.prog ft #[p] W fun e w'=>e= .returned (.int .u64 (S.top:Int))∧Below W.heap.size W w'
theorem Ans.keep {w W:World}{fh fl fj fm fb ft:Nat}{p:Value}{S:Sr}(h:Ans w fh fl fj fm fb ft p S)(hb:Below w.heap.size w W):Ans W fh fl fj fm fb ft p S:=
 ⟨fun V hV=>h.has V (hb.trans (hV.mono hb.size)),fun V hV=>h.below V (hb.trans (hV.mono hb.size)),fun V hV=>h.join V (hb.trans (hV.mono hb.size)),fun V hV=>h.meet V (hb.trans (hV.mono hb.size)),fun V hV=>h.bot V (hb.trans (hV.mono hb.size)),fun V hV=>h.top V (hb.trans (hV.mono hb.size))⟩
def Srt (w:World)(v:Value)(S:Sr):Prop:=
 (∃a,v= .iface 74 (.pointer a)∧Ans w 192 190 193 194 191 195 (.pointer a) S)∨(∃a,v= .iface 77 (.pointer a)∧Ans w 203 201 204 205 202 206 (.pointer a) S)∨(v= .iface 226 (.agg #[])∧Ans w 213 211 214 215 212 216 (.agg #[]) S)
theorem Srt.keep {w W:World}{v:Value}{S:Sr}(h:Srt w v S)(hb:Below w.heap.size w W):Srt W v S:=by
 rcases h with⟨a,e,h⟩|⟨a,e,h⟩|⟨e,h⟩
 ·exact .inl ⟨a,e,h.keep hb⟩
 ·exact .inr (.inl ⟨a,e,h.keep hb⟩)
 ·exact .inr (.inr ⟨e,h.keep hb⟩)
theorem QP {w w':World}(h:La.Drawn w w'):Below w.heap.size w w':=by
 obtain⟨n,rfl⟩:=h
 exact⟨rfl,rfl,rfl,Nat.le_refl _,fun _ _=>rfl⟩
theorem ZH {w w':World}(h:w=w'):Below w.heap.size w w':=h▸Below.refl _ _
theorem Zmp {w:World}{g:Nat}{l:List Nat}(h:La.Vu w g l.length (La.pad l) (La.pad (La.Zo l))):Ans w 192 190 193 194 191 195 (.pointer (some ⟨g,0,none⟩)) (laS l):=by
 constructor
 ·intro W hW x _
  exact(La.Yr g _ _ _ x W (h.keep hW)).mono fun _ _ k=>⟨k.1,ZH k.2⟩
 ·intro W hW x y hx hy
  refine(La.Zed g _ _ _ x y W (h.keep hW) hx hy).mono fun _ _ k=>⟨?_,QP k.2⟩
  rw[k.1,La.Zh9]
  rfl
 ·intro W hW x y hx hy
  refine(La.ZfW g _ _ _ x y W (h.keep hW) hx hy).mono fun _ _ k=>⟨?_,ZH k.2⟩
  rw[k.1,La.Qp fun i hi=>La.KL hi]
  rfl
 ·intro W hW x y hx hy
  refine(La.ZfZ g _ _ _ x y W (h.keep hW) hx hy).mono fun _ _ k=>⟨?_,ZH k.2⟩
  rw[k.1,La.Qp fun i hi=>La.KL (by rw[La.Zq];exact hi)]
  rfl
 ·intro W hW
  refine(La.Zb8 g _ _ _ W (h.keep hW)).mono fun _ _ k=>⟨?_,ZH k.2⟩
  rw[k.1,La.RD fun i hi=>La.KL hi]
  rfl
 ·intro W hW
  refine(La.Zh6 g _ _ _ W (h.keep hW)).mono fun _ _ k=>⟨?_,ZH k.2⟩
  rw[k.1,La.RD fun i hi=>La.KL (by rw[La.Zq];exact hi)]
  rfl
theorem Zew (w:World):Ans w 192 190 193 194 191 195 (.pointer none) dead:=by
 constructor
 ·intro W _ x _
  exact(La.Zam x W).mono fun _ _ k=>⟨k.1,ZH k.2⟩
 ·intro W _ x y _ _
  exact(La.Zec x y W).mono fun _ _ k=>⟨k.1,QP k.2⟩
 ·intro W _ x y _ _
  exact(La.ZfX x y W).mono fun _ _ k=>⟨k.1,ZH k.2⟩
 ·intro W _ x y _ _
  exact(La.Zf0 x y W).mono fun _ _ k=>⟨k.1,ZH k.2⟩
 ·intro W _
  exact(La.Zb9 W).mono fun _ _ k=>⟨k.1,ZH k.2⟩
 ·intro W _
  exact(La.Zh7 W).mono fun _ _ k=>⟨k.1,ZH k.2⟩
theorem Zjt {w:World}{a:Option Addr}{m:Bool}{t:Nat}(h:Ef.EffP w a m t):Ans w 203 201 204 205 202 206 (.pointer a) (efS m t):=
 ⟨fun W hW x hx=>Ef.VP a m t W (h.keep hW) x hx,fun W hW x y hx hy=>Ef.VW a m t W (h.keep hW) x y hx hy,fun W hW x y hx hy=>Ef.Zho a m t W (h.keep hW) x y hx hy,fun W hW x y hx hy=>Ef.Zhp a m t W (h.keep hW) x y hx hy,
  fun W _=>(Ef.ZdS a W).mono fun _ _ k=>⟨k.1,ZH k.2⟩,fun W hW=>(Ef.Zj0 a m t W (h.keep hW)).mono fun _ _ k=>⟨k.1,ZH k.2⟩⟩
theorem ZiL (w:World):Ans w 213 211 214 215 212 216 (.agg #[]) dead:=by
 constructor
 ·(
 intro W _ x _
 go_enter Tryz.func213,Tryz.ntmps213
 go_wp2
 go_ret
 exact⟨rfl,(Below.refl _ W).alloc lR _⟩)
 ·(
 intro W _ x y _ _
 go_enter Tryz.func211,Tryz.ntmps211
 go_wp2
 go_ret
 exact⟨rfl,(Below.refl _ W).alloc lR _⟩)
 ·(
 intro W _ x y _ _
 go_enter Tryz.func214,Tryz.ntmps214
 go_wp2
 go_ret
 exact⟨rfl,(Below.refl _ W).alloc lR _⟩)
 ·(
 intro W _ x y _ _
 go_enter Tryz.func215,Tryz.ntmps215
 go_wp2
 go_ret
 exact⟨rfl,(Below.refl _ W).alloc lR _⟩)
 ·(
 intro W _
 go_enter Tryz.func212,Tryz.ntmps212
 go_wp2
 go_ret
 exact⟨rfl,(Below.refl _ W).alloc lR _⟩)
 ·(
 intro W _
 go_enter Tryz.func216,Tryz.ntmps216
 go_wp2
 go_ret
 exact⟨rfl,(Below.refl _ W).alloc lR _⟩)
end Go.Proofs.YtmejhedegmjboaaGreat.Bo
