/- A region that draws its order, walked in one order: operations that yield the same in every world that meets S are taken as they come, the others one by one where nothing else may come up; behind the operation 'stop', for which all taken ones are waited, S is asked no more. Condition: the order fits the region (a closed check). -/
/- Round; Range: merged. -/
import Derived.Deep.RegionHeld3
import Derived.OrdersIn
import Derived.RangeFuncCalls
import Derived.OwnWalkIn
import Derived.RangeFuncNested
import Derived.RangeFuncBound
import Derived.RangeFuncLeaves
import Derived.Shelf.Abstract
import Derived.WalkKit
import Derived.TacticsInMore
import Derived.LoopNIn
import Derived.LoopIn
namespace Go.Proofs.YtmejhedegmjboaaGreat
open Go
def steps (l:List Oper):List Nat→List (Nat×Oper)
 | []=> []
 |i::r=>match l[i]? with
  |some o=>(i,o)::steps l r
  |none=>steps l r
theorem steps_mem (l:List Oper): ∀(r:List Nat) (x:Nat×Oper),x∈steps l r→l[x.1]?=some x.2
 | [],x,h=>by simp[steps] at h
 |i::r,x,h=>by
  unfold steps at h
  split at h
  ·rename_i o ho
   rcases List.mem_cons.1 h with rfl|h
   ·exact ho
   ·exact steps_mem l r x h
  ·exact steps_mem l r x h
section
variable (P:Program) (ops:Array Oper) (Q:Exit→Act→World→Prop) (S:World→Prop) (stop:Nat) (hards:List Nat)
def wpAnyG:Nat→Array Bool→Act→World→Prop
 |0,listed,a,w=>Region.ready .any ops listed= []∧Q .normal a w
 |fuel+1,listed,a,w=>
  (Region.ready .any ops listed= []→Q .normal a w)∧
  ∀i∈Region.ready .any ops listed,wpOp P ops Q i (fun a' w'=>(i≠stop→S w')∧wpAnyG fuel (listed.setIfInBounds i true) a' w') a w
def wpOrd:List (Nat×Oper)→Act→World→Prop
 | [],a,w=>Q .normal a w
 |(i,o)::r,a,w=>
   (Region.wanted o (yielded ops a.tmps)=true∧hards.contains i=false∧ ∃v,(∀w',S w'→(execOp a.eval o).run P w'= .ok (.value v) w')∧wpOrd r (a.put o.dst v) w)∨
   (Region.wanted o (yielded ops a.tmps)=false∧wpOrd r (a.put o.dst undef) w)∨
   (hards.contains i=true∧Region.wanted o (yielded ops a.tmps)=true∧Oper.wp P o a w (fun a' w'=>(i≠stop→S w')∧wpOrd r a' w') Q)
def waits (i:Nat):Bool:=match ops[stop]? with
 |some o=>o.after.any fun e=>Region.binds .any e && e.on==i
 |none=>true
def okOrd:List (Nat×Oper)→Array Bool→Bool
 | [],listed=>(Region.ready .any ops listed).isEmpty
 |x::r,listed=>
  (Region.ready .any ops listed).contains x.1 && (if hards.contains x.1 then Region.ready .any ops listed== [x.1] && (x.1 !=stop||r.isEmpty) else Region.free .any ops listed x.1 && waits ops stop x.1 && x.1 !=stop) && okOrd r (listed.setIfInBounds x.1 true)
end
section
variable {P:Program} {ops:Array Oper} {Q:Exit→Act→World→Prop} {S:World→Prop} {stop:Nat} {hards:List Nat}
theorem anyG_any: ∀(fuel:Nat) (listed:Array Bool) (a:Act) (w:World),wpAnyG P ops Q S stop fuel listed a w→wpAny P .any ops Q fuel listed a w
 |0,_,_,_,h=>h
 |fuel+1,_,_,_,h=>⟨h.1,fun i hi=>wpOp_mono (fun a' w' h'=>anyG_any fuel _ a' w' h'.2) (h.2 i hi)⟩
theorem anyG_first {i:Nat}{oi:Oper}{v:Value}(hi:ops[i]?=some oi)(hsel: ∀(j:Nat) (o:Oper) cs b,ops[j]?=some o→o.op≠ .select cs b)
  (hQ: ∀c a w,Q (.panic c) (a.put oi.dst v) w→Q (.panic c) a w) (his:i≠stop) (hwait: ∀o,ops[stop]?=some o→ ∃e∈o.after,Region.binds .any e=true∧e.on=i):
  ∀(fuel:Nat) (listed:Array Bool) (a:Act) (w:World),
   (∀j oj,ops[j]?=some oj→j≠i→listed.getD j true=false→(∀e∈oj.after,Region.binds .any e=true→e.on≠i)→oi.apart ops oj=true)→
   i∈Region.ready .any ops listed→YieldsIf P ops S oi v a→S w→
   wpAnyG P ops Q S stop fuel (listed.setIfInBounds i true) (a.put oi.dst v) w→wpAnyG P ops Q S stop (fuel+1) listed a w:=by
 intro fuel
 induction fuel with
 |zero=>
  intro listed a w _ hr hy hS H
  refine⟨fun h=>(by rw[h] at hr;cases hr),fun j hj=> ?_⟩
  by_cases hji:j=i
  ·subst hji
   exact hy.wpOp hi hS ⟨fun _=>hS,H⟩
  ·have:=ready_mono hj hji
   rw[H.1] at this
   cases this
 |succ fuel ih=>
  intro listed a w hfree hr hy hS H
  refine⟨fun h=>(by rw[h] at hr;cases hr),fun j hj=> ?_⟩
  by_cases hji:j=i
  ·subst hji
   exact hy.wpOp hi hS ⟨fun _=>hS,H⟩
  ·have h1:=H.2 j (ready_mono hj hji)
   obtain⟨hjun,oj,hoj,hall⟩:=mem_ready.1 hj
   have hnot: ∀e∈oj.after,Region.binds .any e=true→e.on≠i:=fun e he hb heq=>by
    have h1:=hall e he hb
    have h0:=(mem_ready.1 hr).1
    rw[heq] at h1
    rcases Nat.lt_or_ge i listed.size with h'|h'
    ·simp[h'] at h0 h1
     rw[h0] at h1
     cases h1
    ·simp[Array.getElem?_eq_none h'] at h1
   have hjs:j≠stop:=by
    rintro rfl
    obtain⟨e,he,hb,heq⟩:=hwait oj hoj
    exact hnot e he hb heq
   have h2:=wpOp_putIf hoj (hfree j oj hoj hji hjun hnot) (fun cs b=>hsel i oi cs b hi) (fun cs b=>hsel j oj cs b hoj) hQ hy h1
   have hfree': ∀k ok,ops[k]?=some ok→k≠i→(listed.setIfInBounds j true).getD k true=false→
     (∀e∈ok.after,Region.binds .any e=true→e.on≠i)→oi.apart ops ok=true:=fun k ok hk hki hun hno=>by
    refine hfree k ok hk hki ?_ hno
    by_cases hjk:j=k
    ·subst hjk
     exact hjun
    ·rw[getD_set_ne true hjk] at hun
     exact hun
   refine wpOp_mono (fun a' w' h3=>⟨h3.2.1,ih (listed.setIfInBounds j true) a' w' hfree' (ready_mono hr (Ne.symm hji)) h3.1 (h3.2.1 hjs) ?_⟩) h2
   rw[Array.setIfInBounds_comm _ _ hji]
   exact h3.2.2
theorem put_any_dst (hQ: ∀c a d v w,Q (.panic c) (Act.put a (some d) v) w→Q (.panic c) a w): ∀c a d v w,Q (.panic c) (Act.put a d v) w→Q (.panic c) a w
 |_,_,none,_,_,h=>h
 |c,a,some d,v,w,h=>hQ c a d v w h
theorem waits_spec {i:Nat}(h:waits ops stop i=true): ∀o,ops[stop]?=some o→ ∃e∈o.after,Region.binds .any e=true∧e.on=i:=by
 intro o ho
 unfold waits at h
 rw[ho] at h
 simp only[Array.any_eq_true,Bool.and_eq_true,beq_iff_eq] at h
 obtain⟨k,hk,h1,h2⟩:=h
 exact⟨o.after[k],Array.getElem_mem hk,h1,h2⟩
theorem ord_any (hsel:Region.noSelect ops=true)(hQ: ∀c a d v w,Q (.panic c) (Act.put a (some d) v) w→Q (.panic c) a w):
  ∀(order:List (Nat×Oper)) (fuel:Nat) (listed:Array Bool) (a:Act) (w:World),(∀x∈order,ops[x.1]?=some x.2)→order.length≤fuel→okOrd ops stop hards order listed=true→(order≠ []→S w)→wpOrd P ops Q S stop hards order a w→wpAnyG P ops Q S stop fuel listed a w
 | [],fuel,listed,a,w,_,_,hok,_,h=>by
  have hr:Region.ready .any ops listed= []:=by simpa [okOrd] using hok
  cases fuel with
  |zero=>exact⟨hr,h⟩
  |succ n=>exact⟨fun _=>h,by rw[hr];simp⟩
 |x::r,0,listed,a,w,_,hf,_,_,_=>by simp at hf
 |(i,o)::r,fuel+1,listed,a,w,hm,hf,hok,hS',h=>by
  simp only[okOrd,Bool.and_eq_true] at hok
  obtain⟨⟨hc,hk⟩,hrest⟩:=hok
  have hS:=hS' (by simp)
  have ho:ops[i]?=some o:=hm (i,o) List.mem_cons_self
  have hm': ∀x∈r,ops[x.1]?=some x.2:=fun x hx=>hm x (List.mem_cons_of_mem _ hx)
  have hf':r.length≤fuel:=by simpa using hf
  have soft: ∀v,hards.contains i=false→YieldsIf P ops S o v a→wpOrd P ops Q S stop hards r (a.put o.dst v) w→wpAnyG P ops Q S stop (fuel+1) listed a w:=by
   intro v hh hy h
   rw[hh] at hk
   simp only[Bool.false_eq_true,if_false,Bool.and_eq_true,bne_iff_ne,ne_eq] at hk
   exact anyG_first ho (Region.noSelect_spec hsel) (fun c a w=>put_any_dst hQ c a _ _ w) hk.2 (waits_spec hk.1.2) fuel listed a w (Region.free_spec ho hk.1.1) (by simpa using hc) hy hS (ord_any hsel hQ r fuel _ _ _ hm' hf' hrest (fun _=>hS) h)
  rcases h with⟨hw,hh,v,hy,h⟩|⟨hw,h⟩|⟨hh,hw,h⟩
  ·exact soft v hh (.inl ⟨hw,hy⟩) h
  ·by_cases hh:hards.contains i=true
   ·rw[hh] at hk
    simp only[if_true,Bool.and_eq_true,beq_iff_eq] at hk
    refine⟨fun h0=>(by rw[hk.1] at h0;cases h0),fun j hj=> ?_⟩
    rw[hk.1] at hj
    obtain rfl:j=i:=by simpa using hj
    unfold wpOp
    simp only[ho,hw]
    exact⟨fun _=>hS,ord_any hsel hQ r fuel _ _ _ hm' hf' hrest (fun _=>hS) h⟩
   ·rw[Bool.not_eq_true] at hh
    exact soft undef hh (.inr ⟨hw,rfl⟩) h
  ·rw[hh] at hk
   simp only[if_true,Bool.and_eq_true,beq_iff_eq,Bool.or_eq_true,bne_iff_ne,ne_eq,List.isEmpty_iff] at hk
   refine⟨fun h0=>(by rw[hk.1] at h0;cases h0),fun j hj=> ?_⟩
   rw[hk.1] at hj
   obtain rfl:j=i:=by simpa using hj
   unfold wpOp
   simp only[ho,hw,if_true]
   refine .inl (Oper.wp_mono (fun a' w' ⟨h1,h2⟩=>⟨h1,ord_any hsel hQ r fuel _ _ _ hm' hf' hrest (fun hne=> ?_) h2⟩) h)
   rcases hk.2 with e|e
   ·exact h1 e
   ·exact absurd e hne
theorem wp_region_ord {id:Nat}{l:List Oper}{a:Act}{w:World}(order:List Nat)(hards:List Nat)(stop:Nat)(S:World→Prop)(hm:P.follows .mixedOrders=true)(hsel:Region.noSelect l.toArray=true)
  (hlen:((steps l order).length==l.length)=true) (hok:okOrd l.toArray stop hards (steps l order) (Array.replicate l.length false)=true) (hQ: ∀c a d v w,Q (.panic c) (Act.put a (some d) v) w→Q (.panic c) a w)
  (hS:S w.drew) (h:wpOrd P l.toArray Q S stop hards (steps l order) a w.drew):(Code.region id l.toArray true).wp P Q a w:=
 wp_region_any hm (anyG_any _ _ _ _ (ord_any hsel hQ (steps l order) _ _ a w.drew (fun x hx=>by rw[List.getElem?_toArray];exact steps_mem l order x hx) (by rw[List.size_toArray];exact Nat.le_of_eq (by simpa using hlen)) hok (fun _=>hS) h))
theorem ord_yes {i:Nat}{r:List (Nat×Oper)}{a:Act}{w:World}{o:Oper}{v:Value}(hh:hards.contains i=false)(hw:Region.wanted o (yielded ops a.tmps)=true)
  (hy: ∀w',S w'→(execOp a.eval o).run P w'= .ok (.value v) w') (h:wpOrd P ops Q S stop hards r (a.put o.dst v) w):wpOrd P ops Q S stop hards ((i,o)::r) a w:=
 .inl ⟨hw,hh,v,hy,h⟩
theorem ord_no {i:Nat}{r:List (Nat×Oper)}{a:Act}{w:World}{o:Oper}(hw:Region.wanted o (yielded ops a.tmps)=false)
  (h:wpOrd P ops Q S stop hards r (a.put o.dst undef) w):wpOrd P ops Q S stop hards ((i,o)::r) a w:=
 .inr (.inl ⟨hw,h⟩)
theorem ord_hard {i:Nat}{r:List (Nat×Oper)}{a:Act}{w:World}{o:Oper}(hh:hards.contains i=true)(hw:Region.wanted o (yielded ops a.tmps)=true)
  (h: ∀K:Act→World→Prop,Shut (∀a' w',(i≠stop→S w')→wpOrd P ops Q S stop hards r a' w'→K a' w')→Oper.wp P o a w K Q):wpOrd P ops Q S stop hards ((i,o)::r) a w:=
 .inr (.inr ⟨hh,hw,h _ (fun _ _ h1 h2=>⟨h1,h2⟩)⟩)
theorem ord_end {a:Act}{w:World}(h:Q .normal a w):wpOrd P ops Q S stop hards [] a w:=h
end
structure Open (F:Fence)(P:Program):Prop where
 fn: ∀f,F.fn f
 depth:F.depth=none
 calls: ∀{n:Nat} {f:FuncId} {args:Array Value} {w:World} {R:Ending→World→Prop},Calls P f args w R→CallsIn F n P f args w R
 rows: ∀{n:Nat} {row:String} {args:Array Value} {w:World} {R:Value→World→Prop},Rows P row args w R→RowsIn F n P row args w R
theorem open_round (P:Program)(l:Nat):Open (Fence.wide.inRound l) P:=
 ⟨fun _=>trivial,rfl,fun h=>CallsIn.inRound l (callsIn_wide.2 h),fun h c cs _=>let ⟨v,w',r,s⟩:=h c cs;⟨v,w',r,stepsIn_wide.2 s⟩⟩
theorem open_wide (P:Program):Open Fence.wide P:=
 ⟨fun _=>trivial,rfl,fun h=>callsIn_wide.2 h,fun h c cs _=>let ⟨v,w',r,s⟩:=h c cs;⟨v,w',r,stepsIn_wide.2 s⟩⟩
section
variable {P:Program} {Q:Exit→Act→World→Prop} {n:Nat} {F:Fence}
theorem oper_in (hF:Open F P){o:Oper}{a:Act}{w:World}{K:Act→World→Prop}(hd: ∀c,o.op≠ .defer c)(h:o.wp P a w K Q):o.wpIn F n P a w K Q:=by
 refine⟨fun _ _=>hF.fn _,?_⟩
 unfold Oper.wp at h
 rw[Oper.semAt_eq _ _ _ hd]
 generalize (execOp a.eval o).run P w=r at*
 cases r with
 |ok x w'=>
  cases x <;> simp only[Oper.upon,Oper.uponIn] at h ⊢ <;>
   first
    |exact h
    |exact⟨fun e=>(by rw[hF.depth] at e;cases e),hF.calls h⟩
    |exact⟨fun e=>(by rw[hF.depth] at e;cases e),hF.rows h⟩
    |exact h.elim
 |halt x w'=>cases x <;> simp only[Oper.upon,Oper.uponIn] at h ⊢ <;> exact h
def noDefer (ops:List Oper):Bool:=ops.all fun o=>match o.op with
 | .defer _=>false
 |_=>true
theorem noDefer_spec {ops:List Oper}(h:noDefer ops=true){i:Nat}{o:Oper}(ho:ops[i]?=some o): ∀c,o.op≠ .defer c:=by
 intro c e
 have:=List.all_eq_true.1 h o (List.mem_of_getElem? ho)
 rw[e] at this
 cases this
theorem wpOp_in (hF:Open F P){ops:List Oper}(hd:noDefer ops=true)(hout: ¬LetsOut Q){i:Nat}{K:Act→World→Prop}{a:Act}{w:World}(h:wpOp P ops.toArray Q i K a w):wpOpIn F n P ops.toArray Q i K a w:=by
 unfold wpOp at h
 unfold wpOpIn
 cases ho:ops.toArray[i]? with
 |none=>simpa only[ho] using h
 |some o=>
  simp only[ho] at h ⊢
  split
  ·rename_i hw
   simp only[hw,if_true] at h
   rcases h with h|h
   ·exact oper_in hF (noDefer_spec hd (by simpa using ho)) h
   ·exact absurd h.2 hout
  ·rename_i hw
   simp only[hw] at h
   exact⟨fun _ _=>hF.fn _,h⟩
theorem any_in (hF:Open F P){md:Region.Mode}{ops:List Oper}(hd:noDefer ops=true)(hout: ¬LetsOut Q): ∀(fuel:Nat) (listed:Array Bool) (a:Act) (w:World),wpAny P md ops.toArray Q fuel listed a w→wpAnyIn F n P md ops.toArray Q fuel listed a w
 |0,_,_,_,h=>h
 |fuel+1,_,_,_,h=>⟨h.1,fun i hi=>wpOp_in hF hd hout (wpOp_mono (fun a' w' h'=>any_in hF hd hout fuel _ a' w' h') (h.2 i hi))⟩
def Tame (Q:Exit→Act→World→Prop):Exit→Act→World→Prop
 | .outgrown,_,_=>False
 | .panic _,_,_=>False
 |e,a,w=>Q e a w
theorem tame_out {Q:Exit→Act→World→Prop}: ¬LetsOut (Tame Q):=fun ⟨_,_,h⟩=>h
theorem tame_le {Q:Exit→Act→World→Prop}: ∀e a w,Tame Q e a w→Q e a w
 | .normal,_,_,h=>h
 | .ret,_,_,h=>h
 | .exit _,_,_,h=>h
 | .goto _,_,_,h=>h
theorem wpIn_region_ord (hF:Open F P){id:Nat}{ops:List Oper}{a:Act}{w:World}(order:List Nat)(hards:List Nat)(stop:Nat)(S:World→Prop)(hm:P.follows .mixedOrders=true)(hsel:Region.noSelect ops.toArray=true)(hd:noDefer ops=true)
  (hlen:((steps ops order).length==ops.length)=true) (hok:okOrd ops.toArray stop hards (steps ops order) (Array.replicate ops.length false)=true)
  (hS:S w.drew) (h:wpOrd P ops.toArray (Tame Q) S stop hards (steps ops order) a w.drew):(Code.region id ops.toArray true).wpIn F n P Q a w:=by
 refine(fun h1:(Code.region id ops.toArray true).wpIn F n P (Tame Q) a w=> ?_) ?_
 rotate_left
 ·refine wpIn_region_any hm (any_in hF hd tame_out _ _ _ _ ?_)
  refine anyG_any _ _ _ _ (ord_any (Q:=Tame Q) hsel (fun _ _ _ _ _ h=>h) (steps ops order) _ _ a w.drew (fun x hx=>by rw[List.getElem?_toArray];exact steps_mem ops order x hx) (by rw[List.size_toArray];exact Nat.le_of_eq (by simpa using hlen)) hok (fun _=>hS) h)
 ·exact wpIn_mono h1 tame_le
theorem ord_endT {S:World→Prop}{stop:Nat}{hards:List Nat}{ops:Array Oper}{a:Act}{w:World}(h:Q .normal a w):wpOrd P ops (Tame Q) S stop hards [] a w:=h
end
end Go.Proofs.YtmejhedegmjboaaGreat
namespace Go.Proofs.YtmejhedegmjboaaGreat
open Go Go.RowKit
def Comes {α:Type}(P:Program)(n gf:Nat)(lb:Array Value)(encs:α→Array Value)(St Kp:World→World→Prop)(ys:List α)(w:World):Prop:=
 ∀(l:Nat) (J:List α→World→Prop) (W:World),Below w.heap.size w W→(∀pre A B,J pre A→St A B→J pre B)→
  (∀pre x W1,J pre W1→pre.length < ys.length→YieldAt Fence.wide (n - 1) P l (encs x) W1 fun e W'=>e= .returned (.bool true)∧J (pre++ [x]) W'∧Kp W1 W')→
  J [] W→CallsIn Fence.wide n P gf (#[.func (.yield l) #[] #[]]++lb) W fun e W'=>(∃v,e= .returned v)∧J ys W'
def Goes {α:Type}(Kp:World→World→Prop)(I:List α→World→Prop)(xs:List α)(W:World):Exit→Act→World→Prop
 | .normal,_,W'=>KeepsOthers W W'∧Kp W W'∧I xs W'
 |_,_,_=>False
theorem range_all {α:Type}{P:Program}{n:Nat}{g:Operand}{ps:Array Tmp}{assign body:Code}{Q:Exit→Act→World→Prop}{a:Act}{w:World}{gf:Nat}{lb:Array Value}
  (hg:a.eval g= .func (.func gf) #[] lb) (eg: ∀args w,(callFunc gf args).run P w= .ok (.enter gf args) w) {encs:α→Array Value} {St Kp:World→World→Prop} {ys:List α} (hseq:Comes P (n - 1) gf lb encs St Kp ys w)
  (ht: ∀{A B C:World},Kp A B→Kp B C→Kp A C) (hb: ∀(W:World) (l:Nat) (o o':Obj),w.heap.size≤l→W.heap[l]?=some o→o.isCells=false→Kp W (W.putObj l o')) (hs: ∀{A B:World},St A B→KeepsOthers A B) (hsz: ∀x,(encs x).size=ps.size)
  (I:List α→World→Prop) (hI:OwnFrom w.heap.size I) (hIs: ∀pre A B,I pre A→St A B→I pre B) (h0:I [] w) (a₁:α→Act)
  (hassign: ∀(l:Nat) (x:α) (W:World) (K:Act→World→Prop),K (a₁ x) W→
   assign.wpIn (Fence.wide.inRound l) (n - 1 - 1) P (Exit.then K (fun _ _ _=>False)) {tmps:=(ps.zip (encs x)).foldl (fun t (p,v)=>t.setIfInBounds p v) a.tmps,defers:= []} W)
  (hbody: ∀(l:Nat) (pre:List α) (x:α) (W:World),I pre W→pre.length < ys.length→body.wpIn (Fence.wide.inRound l) (n - 1 - 1) P (Goes Kp I (pre++ [x]) W) (a₁ x) W)
  (hdone: ∀(D:Nat) (W:World),w.heap.size≤D→I ys W→W.heap[D]?=some (.deferred (some []))→Q .normal {a with defers:={target:= .collected D,args:= #[]}::a.defers} W):
  (Code.rangeFunc g ps assign body).wpIn Fence.wide n P Q a w:=by
 refine wpIn_rangeFunc fun fn hfn=> ?_
 have hlaid: ∀st:LoopState,∃r:Loop,r={state:=st,pending:=none,fn,tmps:=a.tmps,params:=ps,assign,body,defers:=w.heap.size}:=fun _=>⟨_,rfl⟩
 obtain⟨r,hr⟩:=hlaid .ready
 obtain⟨rb,hrb⟩:=hlaid .busy
 obtain⟨W1,hW1⟩: ∃W1,W1=(w.alloc (.deferred (some []))).alloc (.loop r):=⟨_,rfl⟩
 have hl1:W1.heap[w.heap.size+1]?=some (.loop r):=by
  have:=heap_alloc_new (w.alloc (.deferred (some []))) (.loop r)
  rw[World.size_alloc] at this
  rw[hW1]
  exact this
 have hd1:W1.heap[w.heap.size]?=some (.deferred (some [])):=by
  rw[hW1]
  exact(Below.heap_alloc _ _ _ (by simp)).trans (heap_alloc_new w _)
 have hb1:Below w.heap.size w W1:=by
  rw[hW1]
  exact((Below.refl _ w).alloc (Nat.le_refl _) _).alloc (by simp) _
 refine⟨w.heap.size+1,[{target:= .collected w.heap.size,args:= #[]}],W1,{target:= .fn (.func gf) lb,args:= #[.func (.yield (w.heap.size+1)) #[] #[]]},W1,gf,#[.func (.yield (w.heap.size+1)) #[] #[]]++lb,W1,?_,?_,fun _ _=>trivial,?_,fun e=>(by cases e),?_⟩
 ·rw[hW1,hr]
  exact run_enterLoop_outer _ _ _ _ _
 ·simp only[resolve,hg]
  simp[go_sem]
 ·simp[invoke,go_sem,eg]
 refine(hseq (w.heap.size+1) (fun pre W=>I pre W∧W.heap[w.heap.size+1]?=some (.loop r)∧W.heap[w.heap.size]?=some (.deferred (some []))) W1 hb1
  (fun pre A B h k=>⟨hIs pre A B h.1 k,(hs k).same _ _ h.2.1 rfl,(hs k).same _ _ h.2.2 rfl⟩) ?_ ⟨by rw[hW1];exact hI.alloc _ (hI.alloc _ h0),hl1,hd1⟩).mono ?_
 ·rintro pre x W ⟨hi,hl,hd⟩ hlen
  have hlt:w.heap.size+1 < W.heap.size:=(Array.getElem?_eq_some_iff.1 hl).1
  have hy:=run_yield (P:=P) (args:=encs x) hl (by rw[hr];exact hsz x)
  have hst:r.state= .ready:=by rw[hr]
  have hbz:{r with state:= .busy}=rb:=by rw[hr,hrb]
  have hbeg:=run_beginRound (P:=P) hl hst
  rw[hbz] at hbeg
  have e1:r.fn=fn:=by rw[hr]
  have e2:r.assign=assign:=by rw[hr]
  have e3:r.body=body:=by rw[hr]
  have e4:r.tmps=a.tmps:=by rw[hr]
  have e5:r.params=ps:=by rw[hr]
  rw[e1,e2,e3,e4,e5] at hy
  have hl2:(W.putObj (w.heap.size+1) (.loop rb)).heap[w.heap.size+1]?=some (.loop rb):=World.putObj_heap_same hlt
  have hd2:(W.putObj (w.heap.size+1) (.loop rb)).heap[w.heap.size]?=some (.deferred (some [])):=(World.putObj_heap_other (by omega)).trans hd
  refine⟨fn,_,assign,body,hy,roundIn_of_wpIn hfn (hassign _ x W _ ⟨_,hbeg,?_⟩)⟩
  refine wpIn_mono (hbody _ pre x _ (hI.putObj _ hi (by omega) hl rfl) hlen) ?_
  rintro e a3 W3 hp
  cases e with
  |normal=>
   obtain⟨k1,k2,k3⟩:=hp
   have hl3:=k1.same _ _ hl2 rfl
   have hd3:=k1.same _ _ hd2 rfl
   have hend:=run_endRound (P:=P) none hl3
   have hrd:({rb with state:=if (none:Option Code).isNone then .ready else .done,pending:=none}:Loop)=r:=by rw[hr,hrb];rfl
   rw[hrd] at hend
   exact⟨_,_,hend,rfl,⟨hI.putObj _ k3 (by omega) hl3 rfl,World.putObj_heap_same (Array.getElem?_eq_some_iff.1 hl3).1,(World.putObj_heap_other (by omega)).trans hd3⟩,ht (ht (hb _ _ _ _ (by omega) hl rfl) k2) (hb _ _ _ _ (by omega) hl3 rfl)⟩
  |ret=>exact hp.elim
  |exit id=>exact hp.elim
  |goto t=>exact hp.elim
  |panic ch=>exact hp.elim
  |outgrown=>exact hp.elim
 ·rintro e W2 ⟨⟨v,rfl⟩,hi,hl,hd⟩
  have hfin:=run_endLoop (P:=P) hl (by rw[hr];simp)
  have hpe:r.pending=none:=by rw[hr]
  rw[hpe] at hfin
  exact⟨none,_,hfin,hdone _ _ (Nat.le_refl _) (hI.putObj _ hi (by omega) hl rfl) ((World.putObj_heap_other (by omega)).trans hd)⟩
end Go.Proofs.YtmejhedegmjboaaGreat
