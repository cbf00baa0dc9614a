import Derived.Test.YtmejhedegmjboaaGreatBoSlv
import Derived.Test.YtmejhedegmjboaaGreatEach
import Derived.Test.YtmejhedegmjboaaGreatRange
import Derived.Test.YtmejhedegmjboaaGreatReOf
import Derived.Test.YtmejhedegmjboaaGreatReRch
set_option maxRecDepth 100000
set_option maxHeartbeats 8000000
namespace Go.Proofs.YtmejhedegmjboaaGreat.Bo
open Go.RowKit
theorem Ziz {S:Sr}(hS:S.Ok){k:Nat}{l:List Bd}{v u:List Nat}(h:QV S k l v)(h':QV S k l u):v=u:=by
 apply List.ext_getElem (h.has.1.trans h'.has.1.symm)
 intro i h1 h2
 have hi:i < k:=by rw[← h.has.1];exact h1
 have a:=h.low u h'.has h'.led i hi
 have b:=h'.low v h.has h.led i hi
 rw[getD_at h1,getD_at h2] at a b
 exact hS.anti _ _ a b
theorem Yx {S:Sr}(hS:S.Ok){k:Int}{l:List Bd}{x:Int}{lo hi:List Nat}(h:ZeF S k l x lo hi):La.Fit lo∧La.Fit hi:=by
 rcases h with⟨c1,n1,rfl,rfl⟩|⟨q,e,c1,rfl,rfl,rfl,no⟩|⟨q,e,c1,rfl,h1,h2,h3⟩
 ·exact⟨(fun _ h=>by cases h),fun _ h=>by cases h⟩
 ·exact⟨(fun _ h=>by cases h),fun _ h=>by cases h⟩
 ·exact⟨Ql hS h1.has,Ql hS.turn h2.has⟩
end Go.Proofs.YtmejhedegmjboaaGreat.Bo
namespace Go.Proofs.YtmejhedegmjboaaGreat
open Go.RowKit
structure Sen where
 p:List Sp
 lo:List Nat
 hi:List Nat
 be:List (List Bool)
def Sen.none:Sen:=⟨[],[],[],[]⟩
def tmL (u:List Nat)(p:Sp):Nat:=Bo.vl u p.v p.z.toNat
def alw (S:Bo.Sr)(lo hi:List Nat)(rc:Nat→Nat→Bool)(p q:Sp):Bool:=(p.v && (q.v && rc p.z.toNat q.z.toNat))||S.below (tmL hi p) (tmL lo q)
def belS (S:Bo.Sr)(lo hi:List Nat)(rc:Nat→Nat→Bool)(p q:Sp):Bool:= !decide (p.s=0) && (!decide (q.s=1) && alw S lo hi rc p q)
def lowS (S:Bo.Sr)(lo:List Nat)(p:Sp):Nat:=if p.s=1 then S.bot else tmL lo p
def V5 (S:Bo.Sr)(hi:List Nat)(p:Sp):Nat:=if p.s=0 then S.top else tmL hi p
def senS (S:Bo.Sr)(lo hi:List Nat)(rc:Nat→Nat→Bool)(l:List Sp):Sen:=
 ⟨l,l.map (lowS S lo),l.map (V5 S hi),l.map fun p=>l.map (belS S lo hi rc p)⟩
structure Got (S:Bo.Sr)(q:Nat)(l:List Bo.Bd)(lo hi:List Nat):Prop where
 ok:S.Ok
 q64:q≤64
 may: ∀b∈l,Bo.mayB S q b=true
 low:Bo.QV S q l lo
 high:Bo.QV S.turn q (l.map Bo.Bd.turn) hi
 hold:Bo.Yu S lo l=true
def rcB (q:Nat)(l:List Bo.Bd)(i j:Nat):Bool:=La.bt (Re.rchN q l) i j
theorem Zl9 {S:Bo.Sr}{q:Nat}{b:Bo.Bd}(h:Bo.mayB S q b=true):Re.mayB q b=true:=by
 unfold Bo.mayB Bo.mayT at h
 unfold Re.mayB Re.mayV
 rw[Bool.and_eq_true] at h ⊢
 obtain⟨h1,h2⟩:=h
 constructor
 ·cases hv:b.av with
  |false=>rfl
  |true=>rw[hv] at h1;simpa using h1
 ·cases hv:b.bv with
  |false=>rfl
  |true=>rw[hv] at h2;simpa using h2
section
variable {S:Bo.Sr} {q:Nat} {l:List Bo.Bd} {lo hi:List Nat} (h:Got S q l lo hi)
include h
theorem Got.has_lo {p:Sp}(hp:may1 S q p=true):S.has (tmL lo p)=true:=by
 unfold may1 Bo.mayT at hp
 unfold tmL Bo.vl
 rw[Int.toNat_natCast] at hp
 cases hv:p.v with
 |false=>rw[hv] at hp;exact hp
 |true=>
  rw[hv] at hp
  exact h.low.has.2 _ (of_decide_eq_true hp)
theorem Got.has_hi {p:Sp}(hp:may1 S q p=true):S.has (tmL hi p)=true:=by
 unfold may1 Bo.mayT at hp
 unfold tmL Bo.vl
 rw[Int.toNat_natCast] at hp
 cases hv:p.v with
 |false=>rw[hv] at hp;exact hp
 |true=>
  rw[hv] at hp
  exact h.high.has.2 _ (of_decide_eq_true hp)
theorem Got.ends {p:Sp}(hp:may1 S q p=true):S.has S.bot=true∧S.has S.top=true:=by
 have:=h.has_lo hp
 exact⟨(h.ok.sub _ _ (h.ok.botl _ this)).1,(h.ok.sub _ _ (h.ok.topl _ this)).2⟩
theorem Got.lowH {p:Sp}(hp:may1 S q p=true):S.has (lowS S lo p)=true:=by
 unfold lowS
 split
 ·exact(h.ends hp).1
 ·exact h.has_lo hp
theorem Got.highH {p:Sp}(hp:may1 S q p=true):S.has (V5 S hi p)=true:=by
 unfold V5
 split
 ·exact(h.ends hp).2
 ·exact h.has_hi hp
end
end Go.Proofs.YtmejhedegmjboaaGreat
namespace Go.Proofs.YtmejhedegmjboaaGreat.Bo
open Go
section
variable (P:Program) (ops:Array Oper)
def Rl (S:World→Prop)(E:Act→World→Prop):List (Nat×Oper)→Act→World→Prop
 | [],a,w=>E a w
 |(_,o)::r,a,w=>Region.wanted o (yielded ops a.tmps)=true∧ ∃v,(∀w',S w'→(execOp a.eval o).run P w'= .ok (.value v) w')∧Rl S E r (a.put o.dst v) w
def ZcS (stop:Nat):List (Nat×Oper)→Array Bool→Bool
 | [],_=>true
 |x::r,listed=>(Region.ready .any ops listed).contains x.1 && Region.free .any ops listed x.1 && waits ops stop x.1 && x.1 !=stop && ZcS stop r (listed.setIfInBounds x.1 true)
def marks:List (Nat×Oper)→Array Bool→Array Bool
 | [],listed=>listed
 |x::r,listed=>marks r (listed.setIfInBounds x.1 true)
end
section
variable {P:Program} {ops:Array Oper} {Q:Exit→Act→World→Prop} {S:World→Prop} {stop:Nat} {hards:List Nat}
theorem ZcT (hsel:Region.noSelect ops=true)(hQ: ∀c a d v w,Q (.panic c) (Act.put a (some d) v) w→Q (.panic c) a w){E:Act→World→Prop}{rest:Nat}:
  ∀(order:List (Nat×Oper)) (listed:Array Bool) (a:Act) (w:World),(∀x∈order,ops[x.1]?=some x.2)→ZcS ops stop order listed=true→S w→
   (∀a w,S w→E a w→Ur P ops Q S stop rest (marks order listed) a w)→Rl P ops S E order a w→Ur P ops Q S stop (order.length+rest) listed a w
 | [],listed,a,w,_,_,hS,hE,h=>by
  rw[List.length_nil,Nat.zero_add]
  exact hE a w hS h
 |(i,o)::r,listed,a,w,hm,hok,hS,hE,⟨hw,v,hy,h⟩=>by(
 simp only[ZcS,Bool.and_eq_true,bne_iff_ne,ne_eq] at hok
 obtain⟨⟨⟨⟨hc,hf⟩,hwt⟩,hns⟩,hrest⟩:=hok
 have ho:ops[i]?=some o:=hm (i,o) List.mem_cons_self
 have ih:=ZcT hsel hQ r (listed.setIfInBounds i true) (a.put o.dst v) w (fun x hx=>hm x (List.mem_cons_of_mem _ hx)) hrest hS hE h
 rw[List.length_cons,show r.length+1+rest=(r.length+rest)+1 by omega]
 exact RJ ho (Region.noSelect_spec hsel) (fun c a w=>QE hQ c a _ _ w) hns (RN hwt) _ listed a w (Region.free_spec ho hf) (by simpa using hc) (.inl ⟨hw,hy⟩) hS ih)
theorem Zhr {i j:Nat}{oi oj:Oper}{listed:Array Bool}{a:Act}{w:World}{fuel:Nat}(hr:Region.ready .any ops listed= [i,j])(hi:ops[i]?=some oi)(hj:ops[j]?=some oj)
  (hwi:Region.wanted oi (yielded ops a.tmps)=true) (hwj:Region.wanted oj (yielded ops a.tmps)=true)
  (h1:Oper.wp P oi a w (fun a' w'=>(i≠stop→S w')∧Ur P ops Q S stop fuel (listed.setIfInBounds i true) a' w') Q)
  (h2:Oper.wp P oj a w (fun a' w'=>(j≠stop→S w')∧Ur P ops Q S stop fuel (listed.setIfInBounds j true) a' w') Q):Ur P ops Q S stop (fuel+1) listed a w:=by
 refine⟨fun h0=>(by rw[hr] at h0;cases h0),fun k hk=> ?_⟩
 rw[hr] at hk
 have hk':k=i∨k=j:=by simpa using hk
 unfold wpOp
 rcases hk' with rfl|rfl
 ·simp only[hi,hwi,if_true]
  exact .inl h1
 ·simp only[hj,hwj,if_true]
  exact .inl h2
theorem VR {id:Nat}{l:List Oper}{a:Act}{w:World}(first:List Nat)(i j:Nat)(oi oj:Oper)(ri rj:List Nat)(hards:List Nat)(stop:Nat)(S:World→Prop)(hm:P.follows .mixedOrders=true)(hsel:Region.noSelect l.toArray=true)
  (hi:l[i]?=some oi) (hj:l[j]?=some oj) (hgi:oi.guard=none) (hgj:oj.guard=none)
  (hok:ZcS l.toArray stop (steps l first) (Array.replicate l.length false)=true) (hr:(Region.ready .any l.toArray (marks (steps l first) (Array.replicate l.length false))== [i,j])=true)
  (hoki:Zay l.toArray stop hards (steps l ri) ((marks (steps l first) (Array.replicate l.length false)).setIfInBounds i true)=true)
  (hokj:Zay l.toArray stop hards (steps l rj) ((marks (steps l first) (Array.replicate l.length false)).setIfInBounds j true)=true)
  (hleni:((steps l first).length+(steps l ri).length+1==l.length)=true) (hlenj:((steps l rj).length==(steps l ri).length)=true)
  (hQ: ∀c a d v w,Q (.panic c) (Act.put a (some d) v) w→Q (.panic c) a w) (hS:S w.drew)
  (h:Rl P l.toArray S (fun a w=>Oper.wp P oi a w (fun a' w'=>S w'∧Uu P l.toArray Q S stop hards (steps l ri) a' w') Q∧Oper.wp P oj a w (fun a' w'=>S w'∧Uu P l.toArray Q S stop hards (steps l rj) a' w') Q) (steps l first) a w.drew):
  (Code.region id l.toArray true).wp P Q a w:=by
 have hmem: ∀(o:List Nat) (x:Nat×Oper),x∈steps l o→l.toArray[x.1]?=some x.2:=fun o x hx=>by rw[List.getElem?_toArray];exact UM l o x hx
 have hlen:(steps l first).length+((steps l ri).length+1)=l.toArray.size:=by rw[List.size_toArray];simp only[beq_iff_eq] at hleni;omega
 simp only[beq_iff_eq] at hr hlenj
 suffices key:Ur P l.toArray Q S stop ((steps l first).length+((steps l ri).length+1)) (Array.replicate l.length false) a w.drew by
  rw[hlen] at key
  exact wp_region_any hm (KP (S:=S) (stop:=stop) _ _ _ _ key)
 refine ZcT hsel hQ (steps l first) _ a w.drew (hmem first) hok hS (fun a w _ hE=> ?_) h
 refine Zhr hr (by rw[List.getElem?_toArray];exact hi) (by rw[List.getElem?_toArray];exact hj) (by simp[Region.wanted,hgi]) (by simp[Region.wanted,hgj]) ?_ ?_
 ·exact Oper.wp_mono (fun a' w' ⟨s1,s2⟩=>⟨fun _=>s1,Ya hsel hQ (steps l ri) _ _ a' w' (hmem ri) lR hoki (fun _=>s1) s2⟩) hE.1
 ·exact Oper.wp_mono (fun a' w' ⟨s1,s2⟩=>⟨fun _=>s1,Ya hsel hQ (steps l rj) _ _ a' w' (hmem rj) (by omega) hokj (fun _=>s1) s2⟩) hE.2
theorem Zag {E:Act→World→Prop}{i:Nat}{r:List (Nat×Oper)}{a:Act}{w:World}{o:Oper}{v:Value}(hw:Region.wanted o (yielded ops a.tmps)=true)
  (hy: ∀w',S w'→(execOp a.eval o).run P w'= .ok (.value v) w') (h:Rl P ops S E r (a.put o.dst v) w):Rl P ops S E ((i,o)::r) a w:=
 ⟨hw,v,hy,h⟩
theorem Zah {E:Act→World→Prop}{a:Act}{w:World}(h:E a w):Rl P ops S E [] a w:=h
end
open Go.RowKit
theorem YK (l:List Bd): ∀u∈l.flatMap bdc,u.oneCell'=true:=by
 intro u hu
 obtain⟨x,_,hx⟩:=List.mem_flatMap.1 hu
 simp only[bdc,List.mem_cons,List.not_mem_nil,or_false] at hx
 rcases hx with rfl|rfl|rfl|rfl <;> rfl
theorem YL:(Tryz.prog.info? 69).map (fun i=>(i.zero,i.size,i.bytes))=some (some (.agg #[.bool false,.int .u64 0,.bool false,.int .u64 0]),4,32):=by kernel_rfl
theorem Zj1 {E:TypeId}{z:Value}{sz bytes:Nat}(h:(Tryz.prog.info? E).map (fun i=>(i.zero,i.size,i.bytes))=some (some z,sz,bytes)): ∃i,Tryz.prog.info? E=some i∧i.zero=some z∧i.size=sz∧i.bytes=bytes:=by
 cases hi:Tryz.prog.info? E with
 |none=>rw[hi] at h;cases h
 |some i=>(
 rw[hi] at h
 simp only[Option.map_some,Option.some.injEq,Prod.mk.injEq] at h
 exact⟨i,rfl,h.1,h.2.1,h.2.2⟩)
theorem Z9 {α:Type}{enc:α→List Value}{sz bytes:Nat}{t E:TypeId}{z:Value}(he: ∀x,(enc x).length=sz)(hsz:0 < sz)(h1: ∀l:List α,∀u∈l.flatMap enc,u.oneCell'=true)(ht:Tryz.prog.underlying t=some (.slice E))(hinf:(Tryz.prog.info? E).map (fun i=>(i.zero,i.size,i.bytes))=some (some z,sz,bytes))(hzs:z.cells.size=sz)(hby:bytes≤1000)
  {w:World} {o:Oper} {a:Act} {K:Act→World→Prop} {Q:Exit→Act→World→Prop} (s x:Operand)
  (ho:o.op= .call {callee:= .builtin .append,args:= #[s,x],argTypes:= #[t,t]})
  (base:Nat) (v:Value) (n:Nat) (vs:List α) (hs:a.eval s=v) (hown:w.ownsRow base E sz v n (vs.flatMap enc)) (B:Nat) (A:Option Addr) (m c:Nat) (ms:List α) (hx:a.eval x= .slice A m c) (hr:Rs enc sz w B A m c ms)
  (hsm:n+m≤100000) (hbase:base≤w.heap.size)
  (h: ∀A' k c' w',Hid (k=n+m)→Hid (Appended w w' base E sz v (.slice A' k c') k ((vs++ms).flatMap enc))→K (a.put o.dst (.slice A' k c')) w'):o.wp Tryz.prog a w K Q:=by
 obtain⟨i0,hi0,hz0,hz1,hz2⟩:=Zj1 hinf
 have key: ∃v' w',(Builtin.append_ #[t,t] o.type #[v,.slice A m c]).run Tryz.prog w= .ok v' w'∧Appended w w' base E sz v v' (n+m) ((vs++ms).flatMap enc):=by(
 rcases A with _|ad
 ·(
 have hc0:=hr.none0 rfl
 have hm0:m=0:=by have:=hr.cap;omega
 subst hc0
 subst hm0
 have hms:ms= []:=List.eq_nil_of_length_eq_zero hr.len
 subst hms
 exact⟨v,w,run_append_owned_none (P:=Tryz.prog) w base t o.type E i0 sz ht hi0 v n _ hown,⟨by simpa using hown,⟨rfl,rfl,rfl,Nat.le_refl _,fun _ _ _=>rfl⟩,.inl rfl⟩⟩)
 ·have hcells: ∀j y,(ms.flatMap enc)[j]?=some y→w.cell? (ad.add j)=some y:=by
   rcases Nat.eq_zero_or_pos m with h0|h0
   ·(
 have hms:ms= []:=List.eq_nil_of_length_eq_zero (by rw[hr.len,h0])
 subst hms
 intro j u hu
 simp at hu)
   ·(
 obtain⟨b,q,hA,_,hc⟩:=hr.spot h0
 injection hA with hA
 subst hA
 exact Rs.cells he hsz hc)
  have hbb:(n+m)*bytes≤140737488355328:=Nat.le_trans (Nat.mul_le_mul hsm hby) (by omega)
  have:=Vk (P:=Tryz.prog) w base t t o.type E i0 _ sz bytes ht hi0 hz0 hz1 hz2 hzs hsz v n _ hown ad m c (ms.flatMap enc) (by rw[Vr he,hr.len]) hcells (h1 ms) (by unfold maxLen;omega) hbb hbase rfl
  rw[← List.flatMap_append] at this
  exact this)
 obtain⟨v',w',hrun,h2⟩:=key
 obtain⟨A',c',rfl⟩:=ZJ h2.own
 unfold Oper.wp execOp
 simp only[ho,resolve,invoke,builtin,Sem.run_bind,Sem.run_pure,Result.andThen_ok,List.map_toArray,List.map_cons,List.map_nil,hs,hx,hrun]
 exact h A' (n+m) c' w' rfl h2
end Go.Proofs.YtmejhedegmjboaaGreat.Bo
namespace Go.Proofs.YtmejhedegmjboaaGreat
open Go.RowKit
def schV (s:Sch)(A:Option Addr)(n c:Nat)(A1:Option Addr)(n1 c1:Nat)(A2:Option Addr)(n2 c2:Nat):Value:= .agg #[.int .i64 s.lv,.int .i64 s.ev,.slice A n c,.slice A1 n1 c1,.slice A2 n2 c2]
structure Zcn (w:World)(s:Sch)(A:Option Addr)(n c:Nat)(A1:Option Addr)(n1 c1:Nat)(A2:Option Addr)(n2 c2:Nat):Prop where
 b:Ns w w.heap.size A n c s.b
 bf: ∀x∈s.b,x.Fits
 bt: ∀x∈s.b,x.TFits
 l:Rs Bo.bdc 4 w w.heap.size A1 n1 c1 s.l
 lf: ∀b∈s.l,b.Fit
 e:Rs Bo.bdc 4 w w.heap.size A2 n2 c2 s.e
 ef: ∀b∈s.e,b.Fit
theorem Zcn.keep {w W:World}{s:Sch}{A:Option Addr}{n c:Nat}{A1:Option Addr}{n1 c1:Nat}{A2:Option Addr}{n2 c2:Nat}(h:Zcn w s A n c A1 n1 c1 A2 n2 c2)(hb:Below w.heap.size w W):Zcn W s A n c A1 n1 c1 A2 n2 c2:=
 ⟨h.b.at_size lR hb,h.bf,h.bt,h.l.at_size lR hb,h.lf,h.e.at_size lR hb,h.ef⟩
structure Box (w:World)(g:Nat)(k1 k2:Int)(A:Option Addr)(n c:Nat)(A1:Option Addr)(n1 c1:Nat)(A2:Option Addr)(n2 c2:Nat):Prop where
 z0:w.cell? ⟨g,0,none⟩=some (.int .i64 k1)
 z1:w.cell? ⟨g,1,none⟩=some (.int .i64 k2)
 z2:w.cell? ⟨g,2,none⟩=some (.slice A n c)
 z3:w.cell? ⟨g,3,none⟩=some (.slice A1 n1 c1)
 z4:w.cell? ⟨g,4,none⟩=some (.slice A2 n2 c2)
theorem Za {w w':World}{p:Addr}{v:Value}(h:w.cell? p=some v)(hb:Below w.heap.size w w'):w'.cell? p=some v:=(hb.cell (World.block_lt_of_cell? w p h)).trans h
theorem Box.keep {w W:World}{g:Nat}{k1 k2:Int}{A:Option Addr}{n c:Nat}{A1:Option Addr}{n1 c1:Nat}{A2:Option Addr}{n2 c2:Nat}(h:Box w g k1 k2 A n c A1 n1 c1 A2 n2 c2)(hb:Below w.heap.size w W):Box W g k1 k2 A n c A1 n1 c1 A2 n2 c2:=
 ⟨Za h.z0 hb,Za h.z1 hb,Za h.z2 hb,Za h.z3 hb,Za h.z4 hb⟩
theorem Box.new (w:World)(k1 k2:Int)(A:Option Addr)(n c:Nat)(A1:Option Addr)(n1 c1:Nat)(A2:Option Addr)(n2 c2:Nat):Box (w.alloc (.cells #[.int .i64 k1,.int .i64 k2,.slice A n c,.slice A1 n1 c1,.slice A2 n2 c2] 49)) w.heap.size k1 k2 A n c A1 n1 c1 A2 n2 c2:=
 have hbx:=heap_alloc_new w (.cells #[.int .i64 k1,.int .i64 k2,.slice A n c,.slice A1 n1 c1,.slice A2 n2 c2] 49)
 ⟨(Zb (i:=0) hbx).trans rfl,(Zb (i:=1) hbx).trans rfl,(Zb (i:=2) hbx).trans rfl,(Zb (i:=3) hbx).trans rfl,(Zb (i:=4) hbx).trans rfl⟩
theorem Zmn (g:Nat)(a b c d:Int)(w:World)(h0:w.cell? ⟨g,0,none⟩=some (.int .i64 a))(h1:w.cell? ⟨g,1,none⟩=some (.int .i64 b))(h2:w.cell? ⟨g,2,none⟩=some (.int .i64 c))(h3:w.cell? ⟨g,3,none⟩=some (.int .i64 d)):
  Calls Tryz.prog 44 #[.slice (some ⟨g,0,none⟩) 4 4] w fun e w'=>e= .returned (.int .i64 (orE a (orE b (orE c d))))∧w=w':=by
 have hall: ∀i:Nat,i < 4→w.cell? ⟨g,i,none⟩=some (.int .i64 ([a,b,c,d].getD i 0)):=fun i hi=>by(
 have:i=0∨i=1∨i=2∨i=3:=by omega
 rcases this with rfl|rfl|rfl|rfl
 ·exact h0
 ·exact h1
 ·exact h2
 ·exact h3)
 have HA:=Hd hall
 have HF:Hid (∀i:Nat,i < 4→(∀j,j < i→ [a,b,c,d].getD j 0=0)→ [a,b,c,d].getD i 0≠0→orE a (orE b (orE c d))= [a,b,c,d].getD i 0):=Hd fun i hi hz hn=>by(
 have:i=0∨i=1∨i=2∨i=3:=by omega
 rcases this with rfl|rfl|rfl|rfl
 ·exact if_neg hn
 ·have z0:=hz 0 (by decide)
  replace z0:a=0:=z0
  subst z0
  exact(if_pos rfl).trans (if_neg hn)
 ·(
 have z0:=hz 0 (by decide)
 have z1:=hz 1 (by decide)
 replace z0:a=0:=z0
 replace z1:b=0:=z1
 subst z0 z1
 exact(if_pos rfl).trans ((if_pos rfl).trans (if_neg hn)))
 ·(
 have z0:=hz 0 (by decide)
 have z1:=hz 1 (by decide)
 have z2:=hz 2 (by decide)
 replace z0:a=0:=z0
 replace z1:b=0:=z1
 replace z2:c=0:=z2
 subst z0 z1 z2
 exact(if_pos rfl).trans ((if_pos rfl).trans (if_pos rfl))))
 have HE:Hid ((∀j,j < 4→ [a,b,c,d].getD j 0=0)→orE a (orE b (orE c d))=0):=Hd fun hz=>by(
 have z0:=hz 0 (by decide)
 have z1:=hz 1 (by decide)
 have z2:=hz 2 (by decide)
 have z3:=hz 3 (by decide)
 replace z0:a=0:=z0
 replace z1:b=0:=z1
 replace z2:c=0:=z2
 replace z3:d=0:=z3
 subst z0 z1 z2 z3
 rfl)
 generalize orE a (orE b (orE c d))=r at*
 generalize [a,b,c,d]=L at*
 clear h0 h1 h2 h3 hall
 go_enter Tryz.func44,Tryz.ntmps44
 go_wp2
 go_loopw [8] (fun v8 wr=> ∃i:Nat,v8= .int .i64 (i:Int)∧i≤4∧(∀j,j < i→L.getD j 0=0)∧w=wr) (fun v8 _=>4 - (intOf v8).toNat)
 case atStart=>exact⟨0,rfl,by omega,fun j h=>by omega,rfl⟩
 case round=>(
 obtain⟨i,rfl,hi,hz,rfl⟩:=hrel
 have HZ:=Hd hz
 clear hz
 by_cases hlt:i < 4
 ·(
 have hc:=HA.out i hlt
 have HS:Hid (L.getD i 0=0→ ∀j,j < i+1→L.getD j 0=0):=Hd fun e j hj=>by(
 by_cases hji:j < i
 ·exact HZ.out j hji
 ·obtain rfl:j=i:=by omega
  exact e)
 have HN:=Hd (HF.out i hlt HZ.out)
 have HLT:=Hd hlt
 generalize L.getD i 0=q at*
 clear hi
 by_cases hq:q=0
 ·(
 subst hq
 go_wp2_with fail
 go_roundw
 case rel=>exact⟨i+1,by have:=HLT.out;go_num,by have:=HLT.out;omega,HS.out rfl,by trivial⟩
 case measure=>(
 have:=HLT.out
 simp[intOf]
 omega))
 ·(
 have hqq:(q !=0)=true:=by simpa using hq
 have HR:=Hd (HN.out hq)
 clear HN HS
 go_wp2_with fail
 go_ret
 exact⟨by rw[HR.out];rfl,rfl⟩))
 ·(
 obtain rfl:i=4:=by omega
 have HR:=Hd (HE.out HZ.out)
 clear hlt hi
 go_wp2
 go_ret
 exact⟨by rw[HR.out];rfl,rfl⟩))
theorem ZbF (s:Sch)(A:Option Addr)(n c:Nat)(A1:Option Addr)(n1 c1:Nat)(A2:Option Addr)(n2 c2:Nat)(v v':Value)(S X:Bo.Sr)(w:World)(h:Zcn w s A n c A1 n1 c1 A2 n2 c2)(hS:Bo.VH w v S)(hX:Bo.VH w v' X)(x:Int)(hx:s.check S X=x):
  Calls Tryz.prog 42 #[schV s A n c A1 n1 c1 A2 n2 c2,v,v'] w fun e w'=>e= .returned (.int .i64 x)∧Below w.heap.size w w':=by
 obtain⟨lv,ev,bo,sl,se⟩:=s
 unfold schV
 have hal:Below w.heap.size w (w.alloc (.cells #[.int .i64 lv,.int .i64 ev,.slice A n c,.slice A1 n1 c1,.slice A2 n2 c2] 49)):=bA
 have hz:=Box.new w lv ev A n c A1 n1 c1 A2 n2 c2
 have H:=Hd h
 have HS:=Hd hS
 have HX:=Hd hX
 have HR:=Hd hx
 have hc:=check_any A n c bo _ (h.keep hal).b h.bf
 have HB:=Hd hal
 clear h hS hX hx hal
 have hz2:=hz.z2
 go_enter Tryz.func42,Tryz.ntmps42
 go_wp2_with fail
 generalize w.alloc (.cells #[.int .i64 lv,.int .i64 ev,.slice A n c,.slice A1 n1 c1,.slice A2 n2 c2] 49)=wa at*
 generalize w.heap.size=g at hz hz2 ⊢
 refine hc.mono ?_
 rintro e w1 ⟨rfl,hv⟩
 replace hz:=hz.keep hv
 have hb2:=HB.out.trans (hv.mono HB.out.size)
 clear HB hc hv hz2 wa
 have HB:=Hd hb2
 clear hb2
 by_cases h0:ZI bo=0
 case neg=>(
 have hne:((ZI bo:Int) !=0)=true:=by simp;omega
 have hr:=HR.out
 unfold Sch.check at hr
 rw[if_neg h0] at hr
 clear HR hz h0
 simp only at hr
 rw[hr] at hne ⊢
 clear hr
 go_wp2_with fail
 go_ret
 exact⟨rfl,HB.out⟩)
 have hr:=HR.out
 unfold Sch.check at hr
 rw[if_pos h0] at hr
 simp only at hr
 have HR2:=Hd hr
 clear HR hr
 rw[h0]
 clear h0
 obtain⟨kl,hkl⟩: ∃k,(labB bo).length=k:=⟨_,rfl⟩
 obtain⟨ke,hke⟩: ∃k,(effB bo).length=k:=⟨_,rfl⟩
 have HKL:=Hd (show kl≤256 by rw[← hkl];exact Zae bo)
 have HKE:=Hd (show ke≤256 by rw[← hke];exact Nat.le_trans (Zaf bo) (by decide))
 have hc:=Zjo A n c bo _ _ kl ke w1 (H.out.keep HB.out).b H.out.bf rfl rfl hkl hke
 have HU1:=Hd (ZdA H.out.bt)
 have HU2:=Hd (ZdB H.out.bt)
 clear hkl hke
 have hz2:=hz.z2
 simp only at HU1 HU2
 generalize labB bo=ls at*
 generalize effB bo=es at*
 go_wp2_with fail
 refine hc.mono ?_
 rintro e w2 ⟨B1,d1,B2,d2,rfl,hT⟩
 have hv:=hT.bel
 replace hz:=hz.keep hv
 have hb2:=HB.out.trans (hv.mono HB.out.size)
 have H1:=Hd hT.r1
 have H2:=Hd hT.r2
 clear HB hc hv hz2 hT w1
 have HB:=Hd hb2
 clear hb2
 obtain⟨x1,hx1⟩: ∃x,Bo.chkS S lv sl=x:=⟨_,rfl⟩
 obtain⟨x2,hx2⟩: ∃x,Bo.chkS X ev se=x:=⟨_,rfl⟩
 obtain⟨x3,hx3⟩: ∃x,Bo.chkS S lv (ls.map bnd)=x:=⟨_,rfl⟩
 obtain⟨x4,hx4⟩: ∃x,Bo.chkS X ev (es.map bnd)=x:=⟨_,rfl⟩
 rw[hx1,hx2,hx3,hx4] at HR2
 have HX1:=Hd hx1
 have HX2:=Hd hx2
 have HX3:=Hd hx3
 have HX4:=Hd hx4
 clear hx1 hx2 hx3 hx4
 go_wp2_with fail
 refine wro [0,1,2,3,4,6,7,8,9,10,12,13,14,15,18,19,20,21,5,11,16,17,22,23,24,25,26] [5,11,16,17,22,23,24,25] 27 (fun w'=>Box w' g lv ev A n c A1 n1 c1 A2 n2 c2) (by kernel_rfl) (fun _ _ _ _ _ h=>h) (hz.keep (Below.refl _ w2).drew) ?_
 simp only[steps,sE,sD]
 repeat((first|refine Zf rfl ?_|(refine Zd (v:= ?_) rfl rfl ?_ ?_;rotate_left;(focus(rintro w' ⟨hS0,hS1,hS2,hS3,hS4⟩;go_simp;try with_reducible rfl))));simp only[Act.put,sA,sB,sC])
 have hv:Below w2.heap.size w2 w2.drew:=(Below.refl _ _).drew
 replace hz:=hz.keep hv
 have hb2:=HB.out.trans (hv.mono HB.out.size)
 have h1:=H1.out.at_size lR hv
 have h2:=H2.out.at_size lR hv
 clear hv HB H1 H2
 have HB:=Hd hb2
 clear hb2
 have H1:=Hd h1
 have H2:=Hd h2
 clear h1 h2
 generalize w2.drew=w3 at*
 refine Ze rfl rfl (fun K hK=> ?_)
 go_simp
 refine(Bo.check_any v lv A1 n1 c1 sl S w3 x1 (HS.out.keep HB.out) (H.out.keep HB.out).l H.out.lf HX1.out).mono ?_
 rintro e w4 ⟨rfl,hv⟩
 replace hz:=hz.keep hv
 have hb2:=HB.out.trans (hv.mono HB.out.size)
 have h1:=H1.out.at_size lR hv
 have h2:=H2.out.at_size lR hv
 clear hv HB H1 H2
 have HB:=Hd hb2
 have H1:=Hd h1
 have H2:=Hd h2
 clear hb2 h1 h2
 refine hK.out _ _ (fun _=>hz) ?_
 clear hK K
 try simp only[Act.put,sA,sB,sC]
 repeat((first|refine Zf rfl ?_|(refine Zd (v:= ?_) rfl rfl ?_ ?_;rotate_left;(focus(rintro w' ⟨hS0,hS1,hS2,hS3,hS4⟩;go_simp;try with_reducible rfl))));simp only[Act.put,sA,sB,sC])
 refine Ze rfl rfl (fun K hK=> ?_)
 go_simp
 refine(Bo.check_any v' ev A2 n2 c2 se X w4 x2 (HX.out.keep HB.out) (H.out.keep HB.out).e H.out.ef HX2.out).mono ?_
 rintro e w5 ⟨rfl,hv⟩
 replace hz:=hz.keep hv
 have hb2:=HB.out.trans (hv.mono HB.out.size)
 have h1:=H1.out.at_size lR hv
 have h2:=H2.out.at_size lR hv
 clear hv HB H1 H2
 have HB:=Hd hb2
 have H1:=Hd h1
 have H2:=Hd h2
 clear hb2 h1 h2
 refine hK.out _ _ (fun _=>hz) ?_
 clear hK K
 try simp only[Act.put,sA,sB,sC]
 repeat((first|refine Zf rfl ?_|(refine Zd (v:= ?_) rfl rfl ?_ ?_;rotate_left;(focus(rintro w' ⟨hS0,hS1,hS2,hS3,hS4⟩;go_simp;try with_reducible rfl))));simp only[Act.put,sA,sB,sC])
 refine Ze rfl rfl (fun K hK=> ?_)
 go_simp
 refine(ZbG B1 kl d1 ls w5 H1.out HU1.out HKL.out).mono ?_
 rintro e w6 ⟨g1,rfl,-,hr,hv⟩
 replace hz:=hz.keep hv
 have hb2:=HB.out.trans (hv.mono HB.out.size)
 have h1:=H1.out.at_size lR hv
 have h2:=H2.out.at_size lR hv
 clear hv HB H1 H2
 have HB:=Hd hb2
 have H1:=Hd h1
 have H2:=Hd h2
 clear hb2 h1 h2
 refine hK.out _ _ (fun _=>hz) ?_
 clear hK K
 try simp only[Act.put,sA,sB,sC]
 repeat((first|refine Zf rfl ?_|(refine Zd (v:= ?_) rfl rfl ?_ ?_;rotate_left;(focus(rintro w' ⟨hS0,hS1,hS2,hS3,hS4⟩;go_simp;try with_reducible rfl))));simp only[Act.put,sA,sB,sC])
 refine Ze rfl rfl (fun K hK=> ?_)
 go_simp
 refine(Bo.check_any v lv (some ⟨g1,0,none⟩) kl kl (ls.map bnd) S w6 x3 (HS.out.keep HB.out) hr (ZdC HU1.out) HX3.out).mono ?_
 rintro e w7 ⟨rfl,hv⟩
 replace hz:=hz.keep hv
 have hb2:=HB.out.trans (hv.mono HB.out.size)
 have h1:=H1.out.at_size lR hv
 have h2:=H2.out.at_size lR hv
 clear hr
 clear hv HB H1 H2
 have HB:=Hd hb2
 have H1:=Hd h1
 have H2:=Hd h2
 clear hb2 h1 h2
 refine hK.out _ _ (fun _=>hz) ?_
 clear hK K
 try simp only[Act.put,sA,sB,sC]
 repeat((first|refine Zf rfl ?_|(refine Zd (v:= ?_) rfl rfl ?_ ?_;rotate_left;(focus(rintro w' ⟨hS0,hS1,hS2,hS3,hS4⟩;go_simp;try with_reducible rfl))));simp only[Act.put,sA,sB,sC])
 refine Ze rfl rfl (fun K hK=> ?_)
 go_simp
 refine(ZbG B2 ke d2 es w7 H2.out HU2.out HKE.out).mono ?_
 rintro e w8 ⟨g2,rfl,-,hr,hv⟩
 replace hz:=hz.keep hv
 have hb2:=HB.out.trans (hv.mono HB.out.size)
 have h1:=H1.out.at_size lR hv
 have h2:=H2.out.at_size lR hv
 clear hv HB H1 H2
 have HB:=Hd hb2
 have H1:=Hd h1
 have H2:=Hd h2
 clear hb2 h1 h2
 refine hK.out _ _ (fun _=>hz) ?_
 clear hK K
 try simp only[Act.put,sA,sB,sC]
 repeat((first|refine Zf rfl ?_|(refine Zd (v:= ?_) rfl rfl ?_ ?_;rotate_left;(focus(rintro w' ⟨hS0,hS1,hS2,hS3,hS4⟩;go_simp;try with_reducible rfl))));simp only[Act.put,sA,sB,sC])
 refine Ze rfl rfl (fun K hK=> ?_)
 go_simp
 refine(Bo.check_any v' ev (some ⟨g2,0,none⟩) ke ke (es.map bnd) X w8 x4 (HX.out.keep HB.out) hr (ZdC HU2.out) HX4.out).mono ?_
 rintro e w9 ⟨rfl,hv⟩
 replace hz:=hz.keep hv
 have hb2:=HB.out.trans (hv.mono HB.out.size)
 have h1:=H1.out.at_size lR hv
 have h2:=H2.out.at_size lR hv
 clear hr
 clear hv HB H1 H2
 have HB:=Hd hb2
 have H1:=Hd h1
 have H2:=Hd h2
 clear hb2 h1 h2
 refine hK.out _ _ (fun _=>hz) ?_
 clear hK K
 try simp only[Act.put,sA,sB,sC]
 repeat((first|refine Zf rfl ?_|(refine Zd (v:= ?_) rfl rfl ?_ ?_;rotate_left;(focus(rintro w' ⟨hS0,hS1,hS2,hS3,hS4⟩;go_simp;try with_reducible rfl))));simp only[Act.put,sA,sB,sC])
 refine Ze rfl rfl (fun K hK=> ?_)
 go_simp
 have hv:Below w9.heap.size w9 (w9.alloc (.cells #[.int .i64 x1,.int .i64 x2,.int .i64 x3,.int .i64 x4] 51)):=bA
 have hbx:=heap_alloc_new w9 (.cells #[.int .i64 x1,.int .i64 x2,.int .i64 x3,.int .i64 x4] 51)
 have o0:=(Zb (i:=0) hbx).trans rfl
 have o1:=(Zb (i:=1) hbx).trans rfl
 have o2:=(Zb (i:=2) hbx).trans rfl
 have o3:=(Zb (i:=3) hbx).trans rfl
 have hor:=Zmn w9.heap.size x1 x2 x3 x4 _ o0 o1 o2 o3
 replace hz:=hz.keep hv
 have hb2:=HB.out.trans (hv.mono HB.out.size)
 clear hv HB H1 H2 hbx o0 o1 o2 o3
 have HB:=Hd hb2
 clear hb2
 rw[HR2.out] at hor
 refine hK.out _ _ (fun _=>hz) ?_
 clear hK K
 try simp only[Act.put,sA,sB,sC]
 repeat((first|refine Zf rfl ?_|(refine Zd (v:= ?_) rfl rfl ?_ ?_;rotate_left;(focus(rintro w' ⟨hS0,hS1,hS2,hS3,hS4⟩;go_simp;try with_reducible rfl))));simp only[Act.put,sA,sB,sC])
 refine Ze rfl rfl (fun K hK=> ?_)
 go_simp
 refine hor.mono ?_
 rintro e w10 ⟨rfl,rfl⟩
 clear hor
 refine hK.out _ _ (fun _=>hz) ?_
 clear hK K
 try simp only[Act.put,sA,sB,sC]
 repeat((first|refine Zf rfl ?_|(refine Zd (v:= ?_) rfl rfl ?_ ?_;rotate_left;(focus(rintro w' ⟨hS0,hS1,hS2,hS3,hS4⟩;go_simp;try with_reducible rfl))));simp only[Act.put,sA,sB,sC])
 refine Zg ?_
 go_wp2_with fail
 go_ret
 exact⟨rfl,HB.out⟩
end Go.Proofs.YtmejhedegmjboaaGreat
namespace Go.Proofs.YtmejhedegmjboaaGreat
open Go.RowKit
def slc (h:Option Addr×Nat×Nat):Value:= .slice h.1 h.2.1 h.2.2
structure Ve (w:World)(B:Nat)(A:Option Addr)(n c:Nat)(l:List (List Bool)):Prop where
 hd: ∃hs:List (Option Addr×Nat×Nat),Rd slc w B A n c hs∧hs.length=l.length∧ ∀i (h:i < hs.length) (h':i < l.length),Rd Value.bool w B hs[i].1 hs[i].2.1 hs[i].2.2 l[i]
theorem Ve.nil (w:World)(B:Nat):Ve w B none 0 0 []:=⟨[],Rd.nil _ _,rfl,fun i h=>absurd h (Nat.not_lt_zero i)⟩
theorem Ve.keep {w w':World}{B:Nat}{A:Option Addr}{n c:Nat}{l:List (List Bool)}(h:Ve w B A n c l)(hk: ∀k,k < B→w'.heap[k]?=w.heap[k]?):Ve w' B A n c l:=by
 obtain⟨hs,h1,h2,h3⟩:=h.hd
 exact⟨hs,h1.keep hk,h2,fun i a b=>(h3 i a b).keep hk⟩
theorem Ve.mono {w:World}{B B':Nat}{A:Option Addr}{n c:Nat}{l:List (List Bool)}(h:Ve w B A n c l)(hB:B≤B'):Ve w B' A n c l:=by
 obtain⟨hs,h1,h2,h3⟩:=h.hd
 exact⟨hs,h1.mono hB,h2,fun i a b=>(h3 i a b).mono hB⟩
theorem Ve.at_size {w w':World}{B:Nat}{A:Option Addr}{n c:Nat}{l:List (List Bool)}(h:Ve w B A n c l)(hB:B≤w.heap.size)(hb:Below w.heap.size w w'):Ve w' w'.heap.size A n c l:=
 (h.keep fun k hk=>hb.block k (by omega)).mono (Nat.le_trans hB hb.size)
theorem Ve.len {w:World}{B:Nat}{A:Option Addr}{n c:Nat}{l:List (List Bool)}(h:Ve w B A n c l):l.length=n:=by
 obtain⟨hs,h1,h2,_⟩:=h.hd
 rw[← h2]
 exact h1.len
theorem Ve.top {w:World}{B:Nat}{A:Option Addr}{n c:Nat}{l:List (List Bool)}(h:Ve w B A n c l):n≤c∧c≤maxLen:=by
 obtain⟨hs,h1,h2,_⟩:=h.hd
 exact⟨h1.cap,h1.top⟩
theorem Ve.row {w:World}{B:Nat}{A:Option Addr}{n c:Nat}{l:List (List Bool)}(h:Ve w B A n c l){i:Nat}(hi:i < l.length):
  ∃b o A' n' c',A=some ⟨b,o,none⟩∧b < B∧w.cell? ⟨b,o+i,none⟩=some (.slice A' n' c')∧Rd Value.bool w B A' n' c' l[i]:=by
 obtain⟨hs,h1,h2,h3⟩:=h.hd
 obtain⟨b,o,e,hb,hc⟩:=h1.spot (by have:=h1.len;omega)
 exact⟨b,o,_,_,_,e,hb,hc i (by omega),h3 i (by omega) hi⟩
theorem Ve.at' {w:World}{B:Nat}{A:Option Addr}{n c:Nat}{l:List (List Bool)}(h:Ve w B A n c l){i:Nat}(hi:i < l.length){j:Nat}(hj:j < l[i].length):
  ∃b o b' o' c',A=some ⟨b,o,none⟩∧b < B∧w.cell? ⟨b,o+i,none⟩=some (.slice (some ⟨b',o',none⟩) l[i].length c')∧b' < B∧w.cell? ⟨b',o'+j,none⟩=some (.bool l[i][j]):=by
 obtain⟨b,o,A',n',c',e,hb,hc,hr⟩:=h.row hi
 have hl:=hr.len
 obtain⟨b',o',rfl,hb',hc'⟩:=hr.spot (by omega)
 exact⟨b,o,b',o',c',e,hb,by rw[hl];exact hc,hb',hc' j hj⟩
def sqL (n:Nat)(P:Nat→Nat→Bool):List (List Bool):=(List.range n).map fun i=>(List.range n).map (P i)
theorem ZfF {n:Nat}{P:Nat→Nat→Bool}:(sqL n P).length=n:=by simp[sqL]
theorem YO {n:Nat}{P:Nat→Nat→Bool}{i:Nat}(h:i < (sqL n P).length):(sqL n P)[i]=(List.range n).map (P i):=by simp[sqL]
theorem Zc3 {w:World}{base g n:Nat}{gs:Nat→Nat}{P:Nat→Nat→Bool}(h:Re.Sqr w base g n gs P)(hn:n≤64):Ve w w.heap.size (some ⟨g,0,none⟩) n n (sqL n P):=by
 refine⟨(List.range n).map fun i=>(some ⟨gs i,0,none⟩,n,n),?_,by simp[sqL],fun i h1 h2=> ?_⟩
 ·refine⟨by simp,Nat.le_refl _,by unfold maxLen;omega,(fun e=>by cases e),fun h0=>⟨g,0,rfl,Zh h.blk,fun j hj=> ?_⟩⟩
  have hj':j < n:=by simpa using hj
  rw[Nat.zero_add,Zb h.blk,Re.Rj hj' hj']
  simp[slc]
 ·(
 have hi:i < n:=by simpa using h1
 have hb:=h.rows i hi
 simp only[List.getElem_map,List.getElem_range,YO]
 refine⟨by simp,Nat.le_refl _,by unfold maxLen;omega,(fun e=>by cases e),fun h0=>⟨gs i,0,rfl,Zh hb,fun j hj=> ?_⟩⟩
 have hj':j < n:=by simpa using hj
 rw[Nat.zero_add,Zb hb,Re.Y7 hj']
 simp[hj'])
def Srt3 (w:World)(v:Value)(S:Bo.Sr):Prop:=(∃a,v= .iface 74 (.pointer a)∧Bo.Ans w 192 190 193 194 191 195 (.pointer a) S)∨(∃a,v= .iface 77 (.pointer a)∧Bo.Ans w 203 201 204 205 202 206 (.pointer a) S)
theorem Srt3.keep {w W:World}{v:Value}{S:Bo.Sr}(h:Srt3 w v S)(hb:Below w.heap.size w W):Srt3 W v S:=by
 rcases h with⟨a,e,h⟩|⟨a,e,h⟩
 ·exact .inl ⟨a,e,h.keep hb⟩
 ·exact .inr ⟨a,e,h.keep hb⟩
theorem Srt3.into {w:World}{v:Value}{S:Bo.Sr}(h:Srt3 w v S):Bo.VH w v S:=by
 rcases h with⟨a,e,h⟩|⟨a,e,h⟩
 ·exact .inr (.inl ⟨a,e,h⟩)
 ·exact .inr (.inr (.inl ⟨a,e,h⟩))
def slvV (v:Value)(A1:Option Addr)(n1 c1:Nat)(A2:Option Addr)(n2 c2:Nat)(A3:Option Addr)(n3 c3:Nat):Value:= .agg #[v,.slice A1 n1 c1,.slice A2 n2 c2,.slice A3 n3 c3]
structure Ut (w:World)(S:Bo.Sr)(q:Nat)(lo hi:List Nat)(rc:Nat→Nat→Bool)(v:Value)(A1:Option Addr)(n1 c1:Nat)(A2:Option Addr)(n2 c2:Nat)(A3:Option Addr)(n3 c3:Nat):Prop where
 s:Srt3 w v S
 rlo:Rd La.nm w w.heap.size A1 n1 c1 lo
 rhi:Rd La.nm w w.heap.size A2 n2 c2 hi
 rrc:Ve w w.heap.size A3 n3 c3 (sqL q rc)
 ll:lo.length=q
 hl:hi.length=q
 lf:La.Fit lo
 hf:La.Fit hi
theorem Ut.keep {w W:World}{S:Bo.Sr}{q:Nat}{lo hi:List Nat}{rc:Nat→Nat→Bool}{v:Value}{A1:Option Addr}{n1 c1:Nat}{A2:Option Addr}{n2 c2:Nat}{A3:Option Addr}{n3 c3:Nat}(h:Ut w S q lo hi rc v A1 n1 c1 A2 n2 c2 A3 n3 c3)(hb:Below w.heap.size w W):Ut W S q lo hi rc v A1 n1 c1 A2 n2 c2 A3 n3 c3:=
 ⟨h.s.keep hb,h.rlo.at_size lR hb,h.rhi.at_size lR hb,h.rrc.at_size lR hb,h.ll,h.hl,h.lf,h.hf⟩
theorem ZfG (b:Bool)(n:Nat)(A:Option Addr)(m c B:Nat)(u:List Nat)(w:World)(h:Rd La.nm w B A m c u)(hB:B≤w.heap.size)(hok:b=true→n < u.length)(x:Nat)(hx:Bo.vl u b n=x):
  Calls Tryz.prog 125 #[Bo.tmv b n,.slice A m c] w fun e w'=>e= .returned (.int .u64 (x:Int))∧Below w.heap.size w w':=by
 have hal:Below w.heap.size w (w.alloc (.cells #[.bool b,.int .u64 (n:Int)] 62)):=bA
 have hlen:=h.len
 unfold Bo.tmv
 subst hx
 cases b with
 |false=>(
 simp only[Bo.vl,cond_false]
 clear h hok
 go_enter Tryz.func125,Tryz.ntmps125
 go_wp2
 go_ret
 exact⟨rfl,hal⟩)
 |true=>(
 simp only[Bo.vl,cond_true]
 have hlt:=hok rfl
 have e:u.getD n 0=u[n]:=by simp[hlt]
 rw[e]
 obtain⟨b,o,rfl,hb,hc'⟩:=h.spot (by omega)
 have hc:=hc' n hlt
 clear hc'
 have hc1:=(hal.cell (p:=⟨b,o+n,none⟩) (show b < _ by omega)).trans hc
 replace hc1:_=some (Value.int .u64 (u[n]:Int)):=hc1
 have hlt':n < m:=by omega
 clear h hc e hok
 generalize u[n]=q at*
 clear hlt hlen
 go_enter Tryz.func125,Tryz.ntmps125
 go_wp2
 go_ret
 exact⟨rfl,hal⟩)
def okT (q:Nat)(b:Bool)(n:Nat):Prop:=b=true→n < q
theorem Zbj (b:Bool)(n:Nat)(S:Bo.Sr)(q:Nat)(lo hi:List Nat)(rc:Nat→Nat→Bool)(v:Value)(A1:Option Addr)(n1 c1:Nat)(A2:Option Addr)(n2 c2:Nat)(A3:Option Addr)(n3 c3:Nat)(w:World)(h:Ut w S q lo hi rc v A1 n1 c1 A2 n2 c2 A3 n3 c3)(hok:okT q b n)(x:Nat)(hx:Bo.vl lo b n=x):
  Calls Tryz.prog 81 #[slvV v A1 n1 c1 A2 n2 c2 A3 n3 c3,Bo.tmv b n] w fun e w'=>e= .returned (.int .u64 (x:Int))∧Below w.heap.size w w':=by
 have hal:Below w.heap.size w ((w.alloc (.cells #[v,.slice A1 n1 c1,.slice A2 n2 c2,.slice A3 n3 c3] 100)).alloc (.cells #[.bool b,.int .u64 (n:Int)] 62)):=(bA).alloc (by simp) _
 have hc:=ZfG b n A1 n1 c1 w.heap.size lo ((w.alloc (.cells #[v,.slice A1 n1 c1,.slice A2 n2 c2,.slice A3 n3 c3] 100)).alloc (.cells #[.bool b,.int .u64 (n:Int)] 62)) (h.rlo.below hal) (by simp;omega) (by rw[h.ll];exact hok) x hx
 have hs:=h.s
 unfold slvV
 clear h hok hx
 unfold Bo.tmv at hc ⊢
 rcases hs with⟨a,rfl,-⟩|⟨a,rfl,-⟩
 all_goals(
 go_enter Tryz.func81,Tryz.ntmps81
 go_wp2_with fail
 refine hc.mono ?_
 rintro e w1 ⟨rfl,hb⟩
 go_wp2_with fail
 go_ret
 exact⟨rfl,hal.trans (hb.mono hal.size)⟩)
theorem Y9 (b:Bool)(n:Nat)(S:Bo.Sr)(q:Nat)(lo hi:List Nat)(rc:Nat→Nat→Bool)(v:Value)(A1:Option Addr)(n1 c1:Nat)(A2:Option Addr)(n2 c2:Nat)(A3:Option Addr)(n3 c3:Nat)(w:World)(h:Ut w S q lo hi rc v A1 n1 c1 A2 n2 c2 A3 n3 c3)(hok:okT q b n)(x:Nat)(hx:Bo.vl hi b n=x):
  Calls Tryz.prog 82 #[slvV v A1 n1 c1 A2 n2 c2 A3 n3 c3,Bo.tmv b n] w fun e w'=>e= .returned (.int .u64 (x:Int))∧Below w.heap.size w w':=by
 have hal:Below w.heap.size w ((w.alloc (.cells #[v,.slice A1 n1 c1,.slice A2 n2 c2,.slice A3 n3 c3] 100)).alloc (.cells #[.bool b,.int .u64 (n:Int)] 62)):=(bA).alloc (by simp) _
 have hc:=ZfG b n A2 n2 c2 w.heap.size hi ((w.alloc (.cells #[v,.slice A1 n1 c1,.slice A2 n2 c2,.slice A3 n3 c3] 100)).alloc (.cells #[.bool b,.int .u64 (n:Int)] 62)) (h.rhi.below hal) (by simp;omega) (by rw[h.hl];exact hok) x hx
 have hs:=h.s
 unfold slvV
 clear h hok hx
 unfold Bo.tmv at hc ⊢
 rcases hs with⟨a,rfl,-⟩|⟨a,rfl,-⟩
 all_goals(
 go_enter Tryz.func82,Tryz.ntmps82
 go_wp2_with fail
 refine hc.mono ?_
 rintro e w1 ⟨rfl,hb⟩
 go_wp2_with fail
 go_ret
 exact⟨rfl,hal.trans (hb.mono hal.size)⟩)
end Go.Proofs.YtmejhedegmjboaaGreat
