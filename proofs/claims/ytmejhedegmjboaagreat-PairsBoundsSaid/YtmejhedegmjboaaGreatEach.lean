import Derived.Lib.SliceRun
import Derived.LoopTactic
import Derived.Handy
import Derived.Laws.MakeOwn
import Derived.Test.YtmejhedegmjboaaGreatOf
import Derived.Test.YtmejhedegmjboaaGreatReRch
import Derived.Test.YtmejhedegmjboaaGreatRepS
import Derived.Test.YtmejhedegmjboaaGreatSides
set_option maxRecDepth 100000
set_option maxHeartbeats 4000000
namespace Go.Proofs.YtmejhedegmjboaaGreat
open Go.RowKit
theorem Z7 {w:World}{B n c:Nat}{A:Option Addr}{l:List Sp}(h:Rs spc 5 w B A n c l){k:Nat}(hk:k < l.length): ∃b o,A=some ⟨b,o,none⟩∧b < B∧
  w.cell? ⟨b,o+k*5,none⟩=some (.int .i64 (l[k].n:Int))∧w.cell? ⟨b,o+k*5+1,none⟩=some (.int .u8 (l[k].p:Int))∧w.cell? ⟨b,o+k*5+2,none⟩=some (.int .u8 (l[k].s:Int))∧w.cell? ⟨b,o+k*5+3,none⟩=some (.bool l[k].v)∧w.cell? ⟨b,o+k*5+4,none⟩=some (.int .u64 l[k].z):=by
 obtain⟨b,o,e,hb,hc⟩:=h.spot (by have:=h.len;omega)
 have hc:=hc k hk
 exact⟨b,o,e,hb,hc 0 _ rfl,hc 1 _ rfl,hc 2 _ rfl,hc 3 _ rfl,hc 4 _ rfl⟩
theorem Zi {w w':World}{base n sz:Nat}{E:TypeId}{v:Value}{xs:List Value}(h:w.ownsRow base E sz v n xs)(hb:Below w.heap.size w w'):w'.ownsRow base E sz v n xs:=by
 refine⟨h.1,?_⟩
 rcases h.2 with hn|⟨g,cap,cur,hv,hg,hgg,r⟩
 ·exact .inl hn
 ·exact .inr ⟨g,cap,cur,hv,hg,(hb.block g (Zh hgg)).trans hgg,r⟩
end Go.Proofs.YtmejhedegmjboaaGreat
namespace Go.Proofs.YtmejhedegmjboaaGreat
open Go.RowKit
end Go.Proofs.YtmejhedegmjboaaGreat
namespace Go.Proofs.YtmejhedegmjboaaGreat
open Go.RowKit
theorem Ul (l:List Tm): ∀u∈l.flatMap tmc,u.oneCell'=true:=by
 intro u hu
 obtain⟨x,_,hx⟩:=List.mem_flatMap.1 hu
 simp only[tmc,List.mem_cons,List.not_mem_nil,or_false] at hx
 rcases hx with rfl|rfl <;> rfl
theorem Kv:(Tryz.prog.info? 62).map (fun i=>(i.zero,i.size,i.bytes))=some (some (.agg #[.bool false,.int .u64 0]),2,16):=by kernel_rfl
theorem Zk {α:Type}{enc:α→List Value}{sz bytes:Nat}{t E:TypeId}{z:Value}(he: ∀x,(enc x).length=sz)(hsz:0 < sz)(h1: ∀l:List α,∀u∈l.flatMap enc,u.oneCell'=true)(ht:Tryz.prog.underlying t=some (.slice E))(hinf:(Tryz.prog.info? E).map (fun i=>(i.zero,i.size,i.bytes))=some (some z,sz,bytes))(hzs:z.cells.size=sz)(hby:bytes≤1000)
  {w:World} {ops:Array Oper} {rest:List Oper} {o:Oper} {a:Act} {Q:Exit→Act→World→Prop} (hgd:o.guard=none) (s x:Operand)
  (ho:o.op= .call {callee:= .builtin .append,args:= #[s,x],argTypes:= #[t,t]})
  (base:Nat) (v:Value) (n:Nat) (vs:List α) (hs:a.eval s=v) (hown:w.ownsRow base E sz v n (vs.flatMap enc)) (B:Nat) (A:Option Addr) (m c:Nat) (ms:List α) (hx:a.eval x= .slice A m c) (hr:Rs enc sz w B A m c ms)
  (hsm:n+m≤100000) (hbase:base≤w.heap.size)
  (h: ∀A' k c' w',Hid (k=n+m)→Hid (Appended w w' base E sz v (.slice A' k c') k ((vs++ms).flatMap enc))→wpList Tryz.prog ops Q rest (a.put o.dst (.slice A' k c')) w'):wpList Tryz.prog ops Q (o::rest) a w:=by
 obtain⟨i0,hi0,hz0,hz1,hz2⟩:=info_parts hinf
 have key: ∃v' w',(Builtin.append_ #[t,t] o.type #[v,.slice A m c]).run Tryz.prog w= .ok v' w'∧Appended w w' base E sz v v' (n+m) ((vs++ms).flatMap enc):=by(
 rcases A with _|ad
 ·(
 have hc0:=hr.none0 rfl
 have hm0:m=0:=by have:=hr.cap;omega
 subst hc0
 subst hm0
 have hms:ms= []:=List.eq_nil_of_length_eq_zero hr.len
 subst hms
 exact⟨v,w,run_append_owned_none (P:=Tryz.prog) w base t o.type E i0 sz ht hi0 v n _ hown,⟨by simpa using hown,⟨rfl,rfl,rfl,Nat.le_refl _,fun _ _ _=>rfl⟩,.inl rfl⟩⟩)
 ·have hcells: ∀j y,(ms.flatMap enc)[j]?=some y→w.cell? (ad.add j)=some y:=by
   rcases Nat.eq_zero_or_pos m with h0|h0
   ·(
 have hms:ms= []:=List.eq_nil_of_length_eq_zero (by rw[hr.len,h0])
 subst hms
 intro j u hu
 simp at hu)
   ·(
 obtain⟨b,q,hA,_,hc⟩:=hr.spot h0
 injection hA with hA
 subst hA
 exact Rs.cells he hsz hc)
  have hbb:(n+m)*bytes≤140737488355328:=Nat.le_trans (Nat.mul_le_mul hsm hby) (by omega)
  have:=Vk (P:=Tryz.prog) w base t t o.type E i0 _ sz bytes ht hi0 hz0 hz1 hz2 hzs hsz v n _ hown ad m c (ms.flatMap enc) (by rw[Vr he,hr.len]) hcells (h1 ms) (by unfold maxLen;omega) hbb hbase rfl
  rw[← List.flatMap_append] at this
  exact this)
 obtain⟨v',w',hrun,h2⟩:=key
 obtain⟨A',c',rfl⟩:=ZJ h2.own
 refine wpList_plain hgd fun K hK=> ?_
 unfold Oper.wp execOp
 simp only[ho,resolve,invoke,builtin,Sem.run_bind,Sem.run_pure,Result.andThen_ok,List.map_toArray,List.map_cons,List.map_nil,hs,hx,hrun]
 exact hK _ _ (h A' (n+m) c' w' rfl h2)
end Go.Proofs.YtmejhedegmjboaaGreat
namespace Go.Proofs.YtmejhedegmjboaaGreat
open Go.RowKit
theorem Zmg (A:Option Addr)(m c:Nat)(l:List Nd)(ls es:List Sp)(w:World)(hr:Ns w w.heap.size A m c l)(hf: ∀x∈l,x.Fits)(e1:labB l=ls)(e2:effB l=es):
  Calls Tryz.prog 45 #[.slice A m c] w fun e w'=> ∃A1 n1 c1 A2 n2 c2,e= .returned (.tuple #[.slice A1 n1 c1,.slice A2 n2 c2])∧w'.ownsRow w.heap.size 67 5 (.slice A1 n1 c1) n1 (ls.flatMap spc)∧w'.ownsRow w.heap.size 67 5 (.slice A2 n2 c2) n2 (es.flatMap spc)∧
   (∀q,(Value.slice A1 n1 c1).ownBlock=some q→(Value.slice A2 n2 c2).ownBlock≠some q)∧Below w.heap.size w w':=by
 have:=ZeS A m c l w hr hf
 rw[e1,e2] at this
 refine this.mono ?_
 rintro e w' ⟨v,u,rfl,h⟩
 obtain⟨A1,c1,rfl⟩:=ZJ h.o2
 obtain⟨A2,c2,rfl⟩:=ZJ h.o3
 exact⟨A1,_,c1,A2,_,c2,rfl,h.o2,h.o3,h.ap,h.bel⟩
end Go.Proofs.YtmejhedegmjboaaGreat
namespace Go.Proofs.YtmejhedegmjboaaGreat
open Go.RowKit
structure Two2 (w w':World)(A1:Option Addr)(n1 c1:Nat)(ls:List Sp)(A2:Option Addr)(n2 c2:Nat)(es:List Sp):Prop where
 o1:w'.ownsRow w.heap.size 67 5 (.slice A1 n1 c1) n1 (ls.flatMap spc)
 o2:w'.ownsRow w.heap.size 67 5 (.slice A2 n2 c2) n2 (es.flatMap spc)
 ap: ∀q,(Value.slice A1 n1 c1).ownBlock=some q→(Value.slice A2 n2 c2).ownBlock≠some q
 bel:Below w.heap.size w w'
theorem Two2.r1 {w w':World}{A1 A2:Option Addr}{n1 c1 n2 c2:Nat}{ls es:List Sp}(h:Two2 w w' A1 n1 c1 ls A2 n2 c2 es):Rs spc 5 w' w'.heap.size A1 n1 c1 ls:=Rs.of_own YW (by decide) h.o1
theorem Two2.r2 {w w':World}{A1 A2:Option Addr}{n1 c1 n2 c2:Nat}{ls es:List Sp}(h:Two2 w w' A1 n1 c1 ls A2 n2 c2 es):Rs spc 5 w' w'.heap.size A2 n2 c2 es:=Rs.of_own YW (by decide) h.o2
theorem Zjo (A:Option Addr)(m c:Nat)(l:List Nd)(ls es:List Sp)(kl ke:Nat)(w:World)(hr:Ns w w.heap.size A m c l)(hf: ∀x∈l,x.Fits)(e1:labB l=ls)(e2:effB l=es)(e3:ls.length=kl)(e4:es.length=ke):
  Calls Tryz.prog 45 #[.slice A m c] w fun e w'=> ∃A1 c1 A2 c2,e= .returned (.tuple #[.slice A1 kl c1,.slice A2 ke c2])∧Two2 w w' A1 kl c1 ls A2 ke c2 es:=by
 refine(Zmg A m c l ls es w hr hf e1 e2).mono ?_
 rintro e w1 ⟨Av,nv,cv,Au,nu,cu,rfl,ov,ou,ap,hb⟩
 have e1:=Zl YW (by decide) ov
 have e2:=Zl YW (by decide) ou
 rw[e3] at e1
 rw[e4] at e2
 subst e1
 subst e2
 exact⟨Av,cv,Au,cu,rfl,ov,ou,ap,hb⟩
end Go.Proofs.YtmejhedegmjboaaGreat
namespace Go.Proofs.YtmejhedegmjboaaGreat
open Go.RowKit
structure Sch where
 lv:Int
 ev:Int
 b:List Nd
 l:List Bo.Bd
 e:List Bo.Bd
def bnd (p:Sp):Bo.Bd:=⟨p.v,p.z.toNat,p.v,p.z.toNat⟩
def orE (a b:Int):Int:=if a=0 then b else a
def Sch.check (S X:Bo.Sr)(s:Sch):Int:=
 if ZI s.b=0 then orE (Bo.chkS S s.lv s.l) (orE (Bo.chkS X s.ev s.e) (orE (Bo.chkS S s.lv ((labB s.b).map bnd)) (Bo.chkS X s.ev ((effB s.b).map bnd)))) else(ZI s.b:Int)
theorem RY {a b:Int}:orE a b=0↔a=0∧b=0:=by
 unfold orE
 split
 ·simp_all
 ·simp_all
def may1 (S:Bo.Sr)(k:Int)(p:Sp):Bool:=Bo.mayT S k.toNat p.v p.z.toNat
theorem Zcy (S:Bo.Sr)(k:Nat)(p:Sp):Bo.mayB S k (bnd p)=Bo.mayT S k p.v p.z.toNat:=by
 simp[Bo.mayB,bnd]
theorem RZ {S:Bo.Sr}{k:Int}{l:List Bo.Bd}:Bo.chkS S k l=0↔0≤k∧k≤64∧l.length≤256∧ ∀b∈l,Bo.mayB S k.toNat b=true:=by
 unfold Bo.chkS
 split
 ·rename_i h
  constructor
  ·intro e;cases e
  ·rintro⟨h1,h2,h3,-⟩;omega
 ·(
 rename_i h
 split
 ·rename_i h2
  exact⟨fun _=>⟨by omega,by omega,by omega,fun b hb=>List.all_eq_true.1 h2 b hb⟩,fun _=>rfl⟩
 ·(
 rename_i h2
 constructor
 ·intro e;cases e
 ·rintro⟨-,-,-,h3⟩
  exact absurd (List.all_eq_true.2 h3) h2))
theorem ZeI {S:Bo.Sr}{k:Int}{l:List Sp}(hl:l.length≤256):Bo.chkS S k (l.map bnd)=0↔0≤k∧k≤64∧ ∀p∈l,may1 S k p=true:=by
 rw[RZ,List.length_map]
 constructor
 ·rintro⟨h1,h2,-,h3⟩
  refine⟨h1,h2,fun p hp=> ?_⟩
  have:=h3 (bnd p) (List.mem_map_of_mem hp)
  rwa [Zcy] at this
 ·(
 rintro⟨h1,h2,h3⟩
 refine⟨h1,h2,hl,fun b hb=> ?_⟩
 obtain⟨p,hp,rfl⟩:=List.mem_map.1 hb
 rw[Zcy]
 exact h3 p hp)
theorem Sch.check_is {S X:Bo.Sr}{s:Sch}:s.check S X=0↔ZI s.b=0∧Bo.chkS S s.lv s.l=0∧Bo.chkS X s.ev s.e=0∧(∀p∈labB s.b,may1 S s.lv p=true)∧ ∀p∈effB s.b,may1 X s.ev p=true:=by
 have h1:=Zae s.b
 have h2:(effB s.b).length≤256:=Nat.le_trans (Zaf s.b) (by decide)
 unfold Sch.check
 split
 ·(
 rename_i h0
 rw[RY,RY,RY,ZeI h1,ZeI h2]
 constructor
 ·rintro⟨a,b,⟨-,-,c⟩,-,-,d⟩
  exact⟨h0,a,b,c,d⟩
 ·rintro⟨-,a,b,c,d⟩
  obtain⟨a1,a2,-⟩:=RZ.1 a
  obtain⟨b1,b2,-⟩:=RZ.1 b
  exact⟨a,b,⟨a1,a2,c⟩,b1,b2,d⟩)
 ·rename_i h0
  constructor
  ·intro e;omega
  ·rintro⟨a,-⟩;exact absurd a h0
end Go.Proofs.YtmejhedegmjboaaGreat
namespace Go.Proofs.YtmejhedegmjboaaGreat
open Go.RowKit
theorem ZgZ: ∀(l:List Nd) (k:Nat) (ss:List Nat),(∀x∈l,x.TFits)→ ∀p∈lab k l ss,U64 p.z
 | [],_,_,_,p,h=>by simp[lab] at h
 |_::_,_,[],_,p,h=>by simp[lab] at h
 |x::l,k,s::ss,hs,p,h=>by(
 have h0:=hs x List.mem_cons_self
 simp only[lab,List.mem_append] at h
 rcases h with h|h
 ·(
 unfold labS at h
 split at h
 ·simp only[List.mem_cons,List.not_mem_nil,or_false] at h
  rcases h with rfl|rfl
  ·exact h0.l
  ·exact h0.p
 ·simp only[List.mem_cons,List.not_mem_nil,or_false] at h
  subst h
  exact h0.l)
 ·exact ZgZ l (k+1) ss (fun y hy=>hs y (List.mem_cons_of_mem _ hy)) p h)
theorem Zg0: ∀(l:List Nd) (k:Nat) (ss:List Nat),(∀x∈l,x.TFits)→ ∀p∈eff k l ss,U64 p.z
 | [],_,_,_,p,h=>by simp[eff] at h
 |_::_,_,[],_,p,h=>by simp[eff] at h
 |x::l,k,s::ss,hs,p,h=>by(
 have h0:=hs x List.mem_cons_self
 simp only[eff,List.mem_append] at h
 rcases h with h|h
 ·(
 unfold effS at h
 split at h
 ·simp only[List.mem_cons,List.not_mem_nil,or_false] at h
  subst h
  exact h0.e
 ·simp at h)
 ·exact Zg0 l (k+1) ss (fun y hy=>hs y (List.mem_cons_of_mem _ hy)) p h)
theorem ZdA {l:List Nd}(h: ∀x∈l,x.TFits): ∀p∈labB l,U64 p.z:=by
 unfold labB
 split
 ·exact ZgZ l 0 _ h
 ·simp
theorem ZdB {l:List Nd}(h: ∀x∈l,x.TFits): ∀p∈effB l,U64 p.z:=by
 unfold effB
 split
 ·exact Zg0 l 0 _ h
 ·simp
theorem Zlh {p:Sp}(h:U64 p.z):(bnd p).Fit:=by
 have:=h.hi
 have:=h.lo
 exact⟨by show p.z.toNat < _;omega,by show p.z.toNat < _;omega⟩
theorem ZdC {l:List Sp}(h: ∀p∈l,U64 p.z): ∀b∈l.map bnd,b.Fit:=fun b hb=>by
 obtain⟨p,hp,rfl⟩:=List.mem_map.1 hb
 exact Zlh (h p hp)
end Go.Proofs.YtmejhedegmjboaaGreat
namespace Go.Proofs.YtmejhedegmjboaaGreat
open Go.RowKit
end Go.Proofs.YtmejhedegmjboaaGreat
namespace Go.Proofs.YtmejhedegmjboaaGreat
open Go.RowKit
theorem Yn {α:Type}{enc:α→List Value}{sz:Nat}(he: ∀x,(enc x).length=sz){y:α}{u:Value}{i:Nat}(hi:i < sz): ∀(l:List α) (k:Nat) (h:k < l.length),enc y=(enc l[k]).set i u→(l.flatMap enc).set (k*sz+i) u=(l.set k y).flatMap enc
 | [],k,h,_=>by simp at h
 |x::l,0,_,e=>by(
 rw[List.flatMap_cons,Nat.zero_mul,Nat.zero_add,List.set_append_left _ _ (by rw[he];exact hi)]
 show _=(y::l).flatMap enc
 rw[List.flatMap_cons,e]
 rfl)
 |x::l,k+1,h,e=>by
  rw[List.flatMap_cons,List.set_append_right _ _ (by rw[he,Nat.add_mul];omega),he,show(k+1)*sz+i - sz=k*sz+i by rw[Nat.add_mul];omega,Yn he hi l k (by simpa using h) (by simpa using e)]
  rfl
def BkAt {α:Type}(enc:α→List Value)(E:TypeId)(w:World)(g:Nat)(l:List α):Prop:=w.heap[g]?=some (.cells (l.flatMap enc).toArray E (0,0))
theorem BkAt.one {α:Type}{enc:α→List Value}{sz:Nat}(he: ∀x,(enc x).length=sz){E:TypeId}{w:World}{g:Nat}{l:List α}(h:BkAt enc E w g l){k:Nat}(hk:k < l.length){i:Nat}(hi:i < sz){u:Value}{y:α}(hy:enc y=(enc l[k]).set i u):BkAt enc E (w.setCell ⟨g,k*sz+i,none⟩ u) g (l.set k y):=by
 unfold BkAt at*
 rw[Zm h]
 congr 2
 rw[← Yn he hi l k hk hy]
 simp
theorem BkAt.cell {α:Type}{enc:α→List Value}{sz:Nat}(he: ∀x,(enc x).length=sz){E:TypeId}{w:World}{g:Nat}{l:List α}(h:BkAt enc E w g l){k:Nat}(hk:k < l.length){i:Nat}(hi:i < sz):w.cell? ⟨g,k*sz+i,none⟩=(enc l[k])[i]?:=by
 rw[Zb h, ← Array.getElem?_toList]
 exact flat_get he l k hk i hi
theorem BkAt.rs {α:Type}{enc:α→List Value}{sz:Nat}(he: ∀x,(enc x).length=sz){E:TypeId}{w:World}{g:Nat}{l:List α}(h:BkAt enc E w g l)(hl:l.length≤100000):Rs enc sz w w.heap.size (some ⟨g,0,none⟩) l.length l.length l:=
 Rs.of_blk (l:=l) (n:=l.length) (c:=l.length) he h ⟨[],by simp⟩ rfl lR (by unfold maxLen;omega)
theorem BkAt.keep {α:Type}{enc:α→List Value}{E:TypeId}{w w':World}{g:Nat}{l:List α}(h:BkAt enc E w g l)(hb:Below w.heap.size w w'):BkAt enc E w' g l:=(hb.block g (Zh h)).trans h
theorem ZgT {α:Type}{enc:α→List Value}{z:Array Value}{y:α}{sz:Nat}(he: ∀x,(enc x).length=sz)(hs:z.size=sz)(hz:0 < sz)(hy:enc y=z.toList)(n:Nat):madeCells z (n*sz)=((List.replicate n y).flatMap enc).toArray:=by
 apply Array.ext
 ·rw[size_madeCells,List.size_toArray,Vr he,List.length_replicate]
 ·(
 intro i h1 h2
 rw[size_madeCells] at h1
 have hk:i / sz < (List.replicate n y).length:=by rw[List.length_replicate];exact Nat.div_lt_of_lt_mul (by rw[Nat.mul_comm];exact h1)
 have:=flat_get he (List.replicate n y) (i / sz) hk (i%sz) (Nat.mod_lt _ hz)
 rw[List.getElem_replicate,Nat.mul_comm (i / sz),Nat.div_add_mod,hy] at this
 rw[List.getElem?_eq_getElem (by simpa using h2)] at this
 simp only[madeCells,Array.getElem_map,Array.getElem_range,List.getElem_toArray]
 have h3:i%sz < z.size:=by rw[hs];exact Nat.mod_lt _ hz
 rw[Array.getElem?_toList,Array.getElem?_eq_getElem h3] at this
 rw[hs,getElem!_pos z _ h3]
 exact(Option.some.inj this).symm)
def mkd {α β:Type}(f:α→β)(z:β)(l:List α)(i:Nat):List β:=(l.take i).map f++List.replicate (l.length - i) z
theorem Zco {α β:Type}{f:α→β}{z:β}{l:List α}{i:Nat}(h:i≤l.length):(mkd f z l i).length=l.length:=by simp[mkd];omega
theorem ZaH {α β:Type}{f:α→β}{z:β}{l:List α}{i:Nat}(h:i < l.length):(mkd f z l i).set i (f l[i])=mkd f z l (i+1):=by
 unfold mkd
 rw[List.set_append_right _ _ (by rw[List.length_map,List.length_take];omega),List.take_succ_eq_append_getElem h,List.map_append,List.length_map,List.length_take,Nat.min_eq_left (by omega),Nat.sub_self,show l.length - i=(l.length - (i+1))+1 by omega,List.replicate_succ]
 simp
theorem Zcp {α β:Type}(f:α→β)(z:β)(l:List α):mkd f z l l.length=l.map f:=by simp[mkd]
theorem Zfx:(Tryz.prog.info? 69).map (fun i=>(i.zero,i.size,i.bytes))=some (some (.agg #[.bool false,.int .u64 0,.bool false,.int .u64 0]),4,32):=by kernel_rfl
def Us:Bo.Bd:=⟨false,0,false,0⟩
theorem ZgU (v:Bool)(z:Nat)(w:World):
  Calls Tryz.prog 72 #[.agg #[.bool v,.int .u64 (z:Int)]] w fun e w'=>e= .returned (.agg #[.bool v,.int .u64 (z:Int),.bool v,.int .u64 (z:Int)])∧Below w.heap.size w w':=by
 have hb:=((Below.refl w.heap.size w).alloc lR (.cells #[.bool v,.int .u64 (z:Int)] 62)).alloc (by simp) (.cells #[.bool v,.int .u64 (z:Int),.bool v,.int .u64 (z:Int)] 69)
 go_enter Tryz.func72,Tryz.ntmps72
 go_wp2
 refine bodyPost_ret (v:= .agg #[.bool v,.int .u64 (z:Int),.bool v,.int .u64 (z:Int)]) ?_ rfl ⟨rfl,hb⟩
 simp[results,Tryz.results72,go_sem]
def Zni (l:List Sp)(w:World)(v13:Value)(wr:World):Prop:= ∃i:Nat,v13= .int .i64 (i:Int)∧i≤l.length∧BkAt Bo.bdc 69 wr w.heap.size (mkd bnd Us l i)∧Below w.heap.size w wr
theorem ZbG (A:Option Addr)(n c:Nat)(l:List Sp)(w:World)(h:Rs spc 5 w w.heap.size A n c l)(hz: ∀p∈l,U64 p.z)(hn:n≤256):
  Calls Tryz.prog 71 #[.slice A n c,.func (.func 72) #[] #[]] w fun e w'=> ∃g,e= .returned (.slice (some ⟨g,0,none⟩) n n)∧w.heap.size≤g∧Rs Bo.bdc 4 w' w'.heap.size (some ⟨g,0,none⟩) n n (l.map bnd)∧Below w.heap.size w w':=by
 obtain⟨i0,hi0,hz0,hz1,hz2⟩:=info_parts Zfx
 have hlen:=h.len
 have hcap:=h.cap
 have htop:=h.top
 unfold maxLen at htop
 have hmk: ∀W,(Instr.makeSlice 42 (.int .i64 (n:Int)) (.int .i64 (n:Int))).run Tryz.prog W= .ok (.slice (some ⟨W.heap.size,0,none⟩) n n) (W.alloc (.cells ((mkd bnd Us l 0).flatMap Bo.bdc).toArray 69)):=by(
 intro W
 have:=run_make (P:=Tryz.prog) W 42 69 i0 _ Tryz.underlying42 hi0 hz0 .i64 .i64 n n (by omega) (Int.le_refl _) (by rw[hz2];omega) (by omega)
 rw[this,hz1,Int.toNat_natCast,show(Value.agg #[Value.bool false,.int .u64 0,.bool false,.int .u64 0]).cells= #[Value.bool false,.int .u64 0,.bool false,.int .u64 0] from rfl,ZgT (z:= #[Value.bool false,.int .u64 0,.bool false,.int .u64 0]) (y:=Us) Bo.Zr rfl (by decide) rfl n,mkd,hlen]
 rfl)
 have hg0:BkAt Bo.bdc 69 (w.alloc (.cells ((mkd bnd Us l 0).flatMap Bo.bdc).toArray 69)) w.heap.size (mkd bnd Us l 0):=heap_alloc_new w _
 have hb0:Below w.heap.size w (w.alloc (.cells ((mkd bnd Us l 0).flatMap Bo.bdc).toArray 69)):=bA
 have HR:=Hd h
 have HL:=Hd hlen
 have HG:=Hd hg0
 have HZ:=Hd hz
 generalize ((mkd bnd Us l 0).flatMap Bo.bdc).toArray=cs at*
 clear h hg0 hi0 hz0 hz1 hz2 i0 hlen hz
 go_enter Tryz.func71,Tryz.ntmps71
 go_wp2
 clear hmk
 go_loopw [13] (fun v13 wr=>Zni l w v13 wr) (fun v13 _=>n - (intOf v13).toNat)
 case atStart=>exact⟨0,rfl,by omega,HG.out,hb0⟩
 case round=>(
 clear HG hb0
 obtain⟨i,rfl,hi,hg,hb⟩:=hrel
 by_cases hlt:i < n
 ·(
 have hi':i < l.length:=by rw[HL.out];exact hlt
 have hr:=(HR.out.at_size lR hb)
 obtain⟨b,o,rfl,hbb,e0,e1,e2,e3,e4⟩:=Z7 hr hi'
 have hu:=HZ.out _ (List.getElem_mem hi')
 have hgl:w.heap.size < wr.heap.size:=Zh hg
 have hit:i < (mkd bnd Us l i).length:=by rw[Zco hi];exact hi'
 have HNX:=Hd (ZaH (f:=bnd) (z:=Us) hi')
 have HLT:=Hd hlt
 have hdk:decide ((i:Int) < (n:Int))=true:=decide_eq_true (by omega)
 generalize mkd bnd Us l i=L at*
 generalize l[i]=x at*
 obtain⟨xn,xp,xs,xv,xz⟩:=x
 simp only at e0 e1 e2 e3 e4 hu
 obtain⟨z,rfl,hzz⟩:=hu.nat
 have hfx:bnd ⟨xn,xp,xs,xv,(z:Int)⟩=⟨xv,z,xv,z⟩:=rfl
 rw[hfx] at HNX
 have HC:Hid (∀W,Below w.heap.size w W→Calls Tryz.prog 72 #[.agg #[.bool xv,.int .u64 (z:Int)]] W fun e w'=>e= .returned (.agg #[.bool xv,.int .u64 (z:Int),.bool xv,.int .u64 (z:Int)])∧Below W.heap.size W w'):=
  Hd fun W _=>ZgU xv z W
 clear hfx
 have hal:Below wr.heap.size wr (wr.alloc (.cells #[.int .i64 (xn:Int),.int .u8 (xp:Int),.int .u8 (xs:Int),.bool xv,.int .u64 (z:Int)] 67)):=bA
 have HB:=Hd (hb.trans (hal.mono hb.size))
 have HG:=Hd (BkAt.keep hg hal)
 have HGL:=Hd (Nat.lt_of_lt_of_le hgl hal.size)
 have HIT:=Hd hit
 have hcall:=HC.out _ HB.out
 have HCALL:=Hd hcall
 clear hr hbb hg hit hi' hb hlt hal hu hzz hgl hcall HC
 go_wp2_with fail
 refine HCALL.out.mono ?_
 rintro e w3 ⟨rfl,hb3⟩
 clear HCALL e0 e1 e2 e3 e4 hdk
 have hg3:=BkAt.keep HG.out hb3
 have HB3:=Hd (HB.out.trans (hb3.mono HB.out.size))
 have hgl3:=Nat.lt_of_lt_of_le HGL.out hb3.size
 have hit:=HIT.out
 have d0:=hg3.cell Bo.Zr hit (i:=0) (by decide)
 have d1:=hg3.cell Bo.Zr hit (i:=1) (by decide)
 have d2:=hg3.cell Bo.Zr hit (i:=2) (by decide)
 have d3:=hg3.cell Bo.Zr hit (i:=3) (by decide)
 obtain⟨ws,hws⟩: ∃ws,ws=(((w3.setCell ⟨w.heap.size,i*4,none⟩ (.bool xv)).setCell ⟨w.heap.size,i*4+1,none⟩ (.int .u64 (z:Int))).setCell ⟨w.heap.size,i*4+2,none⟩ (.bool xv)).setCell ⟨w.heap.size,i*4+3,none⟩ (.int .u64 (z:Int)):=⟨_,rfl⟩
 have h0:=hg3.one Bo.Zr hit (i:=0) (u:= .bool xv) (by decide) (y:=⟨xv,L[i].an,L[i].bv,L[i].bn⟩) rfl
 have h1:=h0.one Bo.Zr (k:=i) (by simpa using hit) (i:=1) (u:= .int .u64 (z:Int)) (by decide) (y:=⟨xv,z,L[i].bv,L[i].bn⟩) (by simp[Bo.bdc])
 have h2:=h1.one Bo.Zr (k:=i) (by simpa using hit) (i:=2) (u:= .bool xv) (by decide) (y:=⟨xv,z,xv,L[i].bn⟩) (by simp[Bo.bdc])
 have h3:=h2.one Bo.Zr (k:=i) (by simpa using hit) (i:=3) (u:= .int .u64 (z:Int)) (by decide) (y:=⟨xv,z,xv,z⟩) (by simp[Bo.bdc])
 rw[List.set_set,List.set_set,List.set_set,HNX.out] at h3
 have HST:Hid (BkAt Bo.bdc 69 ws w.heap.size (mkd bnd Us l (i+1))∧Below w.heap.size w ws):=Hd ⟨hws▸h3,hws▸((((HB3.out.setCell (p:=⟨w.heap.size,i*4,none⟩) lR _).setCell (p:=⟨w.heap.size,i*4+1,none⟩) lR _).setCell (p:=⟨w.heap.size,i*4+2,none⟩) lR _).setCell (p:=⟨w.heap.size,i*4+3,none⟩) lR _)⟩
 rw[hws] at HST
 have f0:w3.frozen? ⟨w.heap.size,i*4,none⟩=false:=Zc hg3
 have f1:w3.frozen? ⟨w.heap.size,i*4+1,none⟩=false:=Zc hg3
 have f2:w3.frozen? ⟨w.heap.size,i*4+2,none⟩=false:=Zc hg3
 have f3:w3.frozen? ⟨w.heap.size,i*4+3,none⟩=false:=Zc hg3
 generalize L[i]=y at*
 obtain⟨av,an,bv,bn⟩:=y
 replace d0:_=some (Value.bool av):=d0
 replace d1:_=some (Value.int .u64 (an:Int)):=d1
 replace d2:_=some (Value.bool bv):=d2
 replace d3:_=some (Value.int .u64 (bn:Int)):=d3
 simp only[Nat.add_zero] at d0
 clear hws h0 h1 h2 h3
 clear ws
 clear hg3 hit hb3 HB HG HGL hgl3
 go_wp2_with fail
 go_roundw
 case rel=>exact⟨i+1,by go_num,by have:=HLT.out;have:=HL.out;omega,HST.out.1,HST.out.2⟩
 case measure=>(
 have:=HLT.out
 simp[intOf]
 omega))
 ·(
 have hin:i=n:=by have:=HL.out;omega
 subst hin
 have hg':BkAt Bo.bdc 69 wr w.heap.size (l.map bnd):=by(
 have e:=Zcp bnd Us l
 rw[HL.out] at e
 rw[← e]
 exact hg)
 have hrs:=hg'.rs Bo.Zr (by rw[List.length_map,HL.out];omega)
 rw[List.length_map,HL.out] at hrs
 have HRS:=Hd hrs
 clear hg hg' hrs
 go_wp2
 go_ret
 exact⟨_,rfl,Nat.le_refl _,HRS.out,hb⟩))
end Go.Proofs.YtmejhedegmjboaaGreat
