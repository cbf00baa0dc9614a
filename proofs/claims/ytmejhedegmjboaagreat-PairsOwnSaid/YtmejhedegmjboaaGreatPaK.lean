/- A range over a function whose body writes a map that was made ahead of it. Conditions: the body's rounds (Kp) keep what the iterator reads. -/
/- Ties as keys of a map; maps that are written more than once at one key. No condition. -/
import Derived.RangeFuncWrites
import Derived.Maps.OwnIn
import Derived.Test.YtmejhedegmjboaaGreatOf
import Derived.Test.YtmejhedegmjboaaGreatTd4
namespace Go.Proofs.YtmejhedegmjboaaGreat
open Go Go.RowKit
def GoesP {α:Type}(B:Nat)(Kp:World→World→Prop)(I:List α→World→Prop)(xs:List α)(W:World):Exit→Act→World→Prop
 | .normal,_,W'=>KeepsFrom B W W'∧Kp W W'∧I xs W'
 |_,_,_=>False
theorem range_put {α:Type}{P:Program}{n:Nat}{g:Operand}{ps:Array Tmp}{assign body:Code}{Q:Exit→Act→World→Prop}{a:Act}{w:World}{gf:Nat}{lb:Array Value}
  (hg:a.eval g= .func (.func gf) #[] lb) (eg: ∀args w,(callFunc gf args).run P w= .ok (.enter gf args) w) {encs:α→Array Value} {St Kp:World→World→Prop} {ys:List α} (hseq:Comes P (n - 1) gf lb encs St Kp ys w)
  (ht: ∀{A B C:World},Kp A B→Kp B C→Kp A C) (hb: ∀(W:World) (l:Nat) (o o':Obj),w.heap.size≤l→W.heap[l]?=some o→o.isCells=false→Kp W (W.putObj l o')) (hs: ∀{A B:World},St A B→KeepsFrom w.heap.size A B) (hsz: ∀x,(encs x).size=ps.size)
  (I:List α→World→Prop) (hI:OwnFrom w.heap.size I) (hIs: ∀pre A B,I pre A→St A B→I pre B) (h0:I [] w) (a₁:α→Act)
  (hassign: ∀(l:Nat) (x:α) (W:World) (K:Act→World→Prop),K (a₁ x) W→
   assign.wpIn (Fence.wide.inRound l) (n - 1 - 1) P (Exit.then K (fun _ _ _=>False)) {tmps:=(ps.zip (encs x)).foldl (fun t (p,v)=>t.setIfInBounds p v) a.tmps,defers:= []} W)
  (hbody: ∀(l:Nat) (pre:List α) (x:α) (W:World),I pre W→pre.length < ys.length→body.wpIn (Fence.wide.inRound l) (n - 1 - 1) P (GoesP w.heap.size Kp I (pre++ [x]) W) (a₁ x) W)
  (hdone: ∀(D:Nat) (W:World),w.heap.size≤D→I ys W→W.heap[D]?=some (.deferred (some []))→Q .normal {a with defers:={target:= .collected D,args:= #[]}::a.defers} W):
  (Code.rangeFunc g ps assign body).wpIn Fence.wide n P Q a w:=by
 refine wpIn_rangeFunc fun fn hfn=> ?_
 have hlaid: ∀st:LoopState,∃r:Loop,r={state:=st,pending:=none,fn,tmps:=a.tmps,params:=ps,assign,body,defers:=w.heap.size}:=fun _=>⟨_,rfl⟩
 obtain⟨r,hr⟩:=hlaid .ready
 obtain⟨rb,hrb⟩:=hlaid .busy
 obtain⟨W1,hW1⟩: ∃W1,W1=(w.alloc (.deferred (some []))).alloc (.loop r):=⟨_,rfl⟩
 have hl1:W1.heap[w.heap.size+1]?=some (.loop r):=by
  have:=heap_alloc_new (w.alloc (.deferred (some []))) (.loop r)
  rw[World.size_alloc] at this
  rw[hW1]
  exact this
 have hd1:W1.heap[w.heap.size]?=some (.deferred (some [])):=by
  rw[hW1]
  exact(Below.heap_alloc _ _ _ (by simp)).trans (heap_alloc_new w _)
 have hb1:Below w.heap.size w W1:=by
  rw[hW1]
  exact((Below.refl _ w).alloc (Nat.le_refl _) _).alloc (by simp) _
 refine⟨w.heap.size+1,[{target:= .collected w.heap.size,args:= #[]}],W1,{target:= .fn (.func gf) lb,args:= #[.func (.yield (w.heap.size+1)) #[] #[]]},W1,gf,#[.func (.yield (w.heap.size+1)) #[] #[]]++lb,W1,?_,?_,fun _ _=>trivial,?_,fun e=>(by cases e),?_⟩
 ·rw[hW1,hr]
  exact run_enterLoop_outer _ _ _ _ _
 ·simp only[resolve,hg]
  simp[go_sem]
 ·simp[invoke,go_sem,eg]
 refine(hseq (w.heap.size+1) (fun pre W=>I pre W∧W.heap[w.heap.size+1]?=some (.loop r)∧W.heap[w.heap.size]?=some (.deferred (some []))) W1 hb1
  (fun pre A B h k=>⟨hIs pre A B h.1 k,(hs k).same _ _ (Nat.le_succ _) h.2.1 rfl,(hs k).same _ _ (Nat.le_refl _) h.2.2 rfl⟩) ?_ ⟨by rw[hW1];exact hI.alloc _ (hI.alloc _ h0),hl1,hd1⟩).mono ?_
 ·rintro pre x W ⟨hi,hl,hd⟩ hlen
  have hlt:w.heap.size+1 < W.heap.size:=(Array.getElem?_eq_some_iff.1 hl).1
  have hy:=run_yield (P:=P) (args:=encs x) hl (by rw[hr];exact hsz x)
  have hst:r.state= .ready:=by rw[hr]
  have hbz:{r with state:= .busy}=rb:=by rw[hr,hrb]
  have hbeg:=run_beginRound (P:=P) hl hst
  rw[hbz] at hbeg
  have e1:r.fn=fn:=by rw[hr]
  have e2:r.assign=assign:=by rw[hr]
  have e3:r.body=body:=by rw[hr]
  have e4:r.tmps=a.tmps:=by rw[hr]
  have e5:r.params=ps:=by rw[hr]
  rw[e1,e2,e3,e4,e5] at hy
  have hl2:(W.putObj (w.heap.size+1) (.loop rb)).heap[w.heap.size+1]?=some (.loop rb):=World.putObj_heap_same hlt
  have hd2:(W.putObj (w.heap.size+1) (.loop rb)).heap[w.heap.size]?=some (.deferred (some [])):=(World.putObj_heap_other (by omega)).trans hd
  refine⟨fn,_,assign,body,hy,roundIn_of_wpIn hfn (hassign _ x W _ ⟨_,hbeg,?_⟩)⟩
  refine wpIn_mono (hbody _ pre x _ (hI.putObj _ hi (by omega) hl rfl) hlen) ?_
  rintro e a3 W3 hp
  cases e with
  |normal=>
   obtain⟨k1,k2,k3⟩:=hp
   have hl3:=k1.same _ _ (Nat.le_succ _) hl2 rfl
   have hd3:=k1.same _ _ (Nat.le_refl _) hd2 rfl
   have hend:=run_endRound (P:=P) none hl3
   have hrd:({rb with state:=if (none:Option Code).isNone then .ready else .done,pending:=none}:Loop)=r:=by rw[hr,hrb];rfl
   rw[hrd] at hend
   exact⟨_,_,hend,rfl,⟨hI.putObj _ k3 (by omega) hl3 rfl,World.putObj_heap_same (Array.getElem?_eq_some_iff.1 hl3).1,(World.putObj_heap_other (by omega)).trans hd3⟩,ht (ht (hb _ _ _ _ (by omega) hl rfl) k2) (hb _ _ _ _ (by omega) hl3 rfl)⟩
  |ret=>exact hp.elim
  |exit id=>exact hp.elim
  |goto t=>exact hp.elim
  |panic ch=>exact hp.elim
  |outgrown=>exact hp.elim
 ·rintro e W2 ⟨⟨v,rfl⟩,hi,hl,hd⟩
  have hfin:=run_endLoop (P:=P) hl (by rw[hr];simp)
  have hpe:r.pending=none:=by rw[hr]
  rw[hpe] at hfin
  exact⟨none,_,hfin,hdone _ _ (Nat.le_refl _) (hI.putObj _ hi (by omega) hl rfl) ((World.putObj_heap_other (by omega)).trans hd)⟩
end Go.Proofs.YtmejhedegmjboaaGreat
namespace Go.Proofs.YtmejhedegmjboaaGreat
open Go Go.RowKit
attribute [local go_sem] Oper.semAt_some
structure KpM (n₀:Nat)(A B:World):Prop where
 bel:Below n₀ A B
 keep: ∀(b:Nat) (cs:Array Value) (t:TypeId) (z:Nat×Nat),A.heap[b]?=some (.cells cs t z)→B.heap[b]?=some (.cells cs t z)
theorem KpM.trans {n₀:Nat}{A B C:World}(h:KpM n₀ A B)(k:KpM n₀ B C):KpM n₀ A C:=
 ⟨h.bel.trans k.bel,fun b cs t z hb=>k.keep b cs t z (h.keep b cs t z hb)⟩
theorem KpM.refl (n₀:Nat)(A:World):KpM n₀ A A:=⟨Below.refl _ _,fun _ _ _ _ h=>h⟩
theorem KpM.behind {n₀:Nat}{A B:World}(h:Below A.heap.size A B)(hn:n₀≤A.heap.size):KpM n₀ A B:=⟨h.mono hn,fun b _ _ _ hb=>(h.block b (lt_blk hb)).trans hb⟩
theorem KpM.put {n₀:Nat}{w:World}(hn:n₀≤w.heap.size)(W:World)(l:Nat)(o o':Obj)(hl:w.heap.size≤l)(h:W.heap[l]?=some o)(h1:o.isCells=false):KpM n₀ W (W.putObj l o'):=
 ⟨(Below.refl n₀ W).grown (grownBy_putObj' W l o') (by have:=lt_blk h;omega) (fun k e=>by cases e;omega),fun b cs t z hb=>by
  have:b≠l:=by
   rintro rfl
   rw[hb] at h
   cases h
   cases h1
  exact(World.putObj_heap_other (by omega)).trans hb⟩
theorem KpM.of_grown {n₀ B:Nat}{W W':World}{row:Option Nat}(hg:W.grownBy W' row)(hr: ∀r,row=some r→B≤r∧ ∃o:Obj,W.heap[r]?=some o∧o.isCells=false)(hB:n₀≤B)(hs:n₀≤W.heap.size):KpM n₀ W W':=
 ⟨(Below.refl n₀ W).grown hg hs fun j e=>Nat.le_trans hB (hr j e).1,fun b cs t z hb=>(hg.block b (lt_blk hb) fun e=>by
  obtain⟨_,o,ho,hc⟩:=hr b e.symm
  rw[hb] at ho
  cases ho
  cases hc).trans hb⟩
theorem KpM.cell {n₀:Nat}{A B:World}(h:KpM n₀ A B){p:Addr}{v:Value}(hc:A.cell? p=some v):B.cell? p=some v:=by
 obtain⟨cs,t,z,hb⟩: ∃cs t z,A.heap[p.block]?=some (.cells cs t z):=by
  unfold World.cell? at hc
  split at hc
  ·rename_i cs t z hb
   exact⟨cs,t,z,hb⟩
  ·cases hc
 exact(World.cell?_of_block (a:=p) ((h.keep _ _ _ _ hb).trans hb.symm)).trans hc
def bwA (l:List Nat)(k:Fin l.length):Array Value:= #[.int .i64 (k.val:Int),.int .i64 (l[k.val]:Int)]
def bwY (n:Nat):List (Fin n):=(List.finRange n).reverse
theorem bwY_next {n k:Nat}(h:k < n):(bwY n).take (n - (k+1))++ [⟨k,h⟩]=(bwY n).take (n - k):=by
 have e:n - k=n - (k+1)+1:=by omega
 rw[e,List.take_succ_eq_append_getElem (by simp[bwY];omega)]
 congr 1
 simp only[bwY,List.getElem_reverse,List.getElem_finRange,List.length_finRange]
 congr 1
 apply Fin.ext
 show k=n - 1 - (n - (k+1))
 omega
theorem bwY_vals (l:List Nat):(bwY l.length).map (fun x=>l[x.val])=l.reverse:=by
 unfold bwY
 rw[List.map_reverse]
 congr 1
 apply List.ext_getElem (by simp)
 intro i h1 h2
 simp
set_option maxRecDepth 100000 in
set_option maxHeartbeats 1000000 in
theorem bwd_comes (nn Bn n₀:Nat)(b o n c:Nat)(l:List Nat)(hl:l.length=n)(w:World)(hn:n≤1000)(A:Option Addr)(hA:0 < n→A=some ⟨b,o,none⟩)(hcn:w.cell? ⟨Bn,0,none⟩=some (.slice A n c))(hc: ∀k (h:k < l.length),w.cell? ⟨b,o+k,none⟩=some (.int .i64 (l[k]:Int))):
  Comes Tryz.prog nn 155 #[.pointer (some ⟨Bn,0,none⟩)] (bwA l) (fun X Y=>X=Y) (KpM n₀) (bwY l.length) w:=by
 intro yl J W hW _ hY h0
 have HY:=Lib.hid hY
 have HN:=Lib.hid hn
 have HCN:Hid (∀V,KpM n₀ W V→V.cell? ⟨Bn,0,none⟩=some (.slice A n c)):=Lib.hid fun V hV=>hV.cell (cell_old hcn hW)
 have HC:Hid (∀V,KpM n₀ W V→ ∀k (h:k < l.length),V.cell? ⟨b,o+k,none⟩=some (.int .i64 (l[k]:Int))):=Lib.hid fun V hV k hk=>hV.cell (cell_old (hc k hk) hW)
 have HA:=Lib.hid hA
 have HLN:=Lib.hid hl
 have hsub:wrap64 ((n:Int) - 1)=(n:Int) - 1:=by unfold wrap64;omega
 have hcn0:=HCN.out W (KpM.refl _ _)
 clear hY hn hcn hc hA hW hl
 refine callsIn_of_wp Tryz.func155 rfl trivial ?_ rfl
 simp only[Tryz.ntmps155,List.size_toArray,List.length_cons,List.length_nil,Nat.reduceAdd,Nat.reduceSub,Array.replicate_succ,Array.replicate_zero,List.push_toArray,List.append_toArray,List.nil_append,List.cons_append]
 gi_wp2
 gi_loopw [3] (fun v3 wr=> ∃(q:Nat) (j:Int),v3= .int .i64 j∧Hid (j=(q:Int) - 1)∧q≤n∧J ((bwY l.length).take (n - q)) wr∧KpM n₀ W wr) (fun v3 _=>(intOf v3+1).toNat)
 case atStart=>exact⟨n,_,rfl,Lib.hid rfl,Nat.le_refl _,by rw[Nat.sub_self];exact h0,KpM.refl _ _⟩
 case round=>
  obtain⟨q,j,rfl,hj,hq,hJ,hk⟩:=hrel
  have HJ:=Lib.hid hJ
  have HK:=Lib.hid hk
  cases q with
  |zero=>
   obtain rfl:j= -1:=by have:=hj.out;omega
   clear hq hJ hk h0 hcn0
   gi_wp2
   go_end0
   exact⟨⟨_,rfl⟩,by
    have:=HJ.out
    rw[Nat.sub_zero,List.take_of_length_le (by have:=HLN.out;simp[bwY];omega)] at this
    exact this⟩
  |succ k=>
   obtain rfl:j=(k:Int):=by have:=hj.out;omega
   have hkn:k < n:=hq
   have HKN:=Lib.hid hkn
   have hkl:k < l.length:=by have:=HLN.out;omega
   have d0:=HC.out _ hk k hkl
   have d1:=HCN.out _ hk
   obtain rfl:A=some ⟨b,o,none⟩:=HA.out (by omega)
   have hin:(k:Int) < (n:Int):=by omega
   have hk9:k≤60000:=by have:=HN.out;omega
   have hge:(k:Int)≥0:=by omega
   have hsk:wrap64 ((k:Int) - 1)=(k:Int) - 1:=by unfold wrap64;omega
   obtain⟨fn,tmps,assign,body,hy,hR⟩:=HY.out _ ⟨k,hkl⟩ _ hJ (by have:=HLN.out;rw[List.length_take];simp[bwY];omega)
   unfold bwA at hy
   have hR':=hR.mono (R':=fun e W'=>e= .returned (.bool true)∧Hid (J ((bwY l.length).take (n - k)) W'∧KpM n₀ W W')) (by
    rintro e W' ⟨rfl,h1,h2⟩
    have e:=bwY_next hkl
    have hln:=HLN.out
    rw[show n - (k+1)=l.length - (k+1) by omega,e,show l.length - k=n - k by omega] at h1
    exact⟨rfl,Lib.hid ⟨h1,HK.out.trans h2⟩⟩)
   clear hR hJ hk hq h0 hcn0 hkn HA hsub
   generalize l[k]=x at*
   gi_wp2
   refine⟨fun e=>(by cases e),hR'.mono ?_⟩
   rintro e W3 ⟨rfl,HJ3⟩
   clear hy hR' d0 d1
   gi_wp2
   go_roundw
   case rel=>exact⟨k,_,rfl,Lib.hid rfl,Nat.le_of_lt HKN.out,HJ3.out.1,HJ3.out.2⟩
   case measure=>simp[intOf]
end Go.Proofs.YtmejhedegmjboaaGreat
namespace Go.Proofs.YtmejhedegmjboaaGreat.I
open Go.RowKit PaC
def MapHas {α:Type}(en:α→Value)(K E:TypeId)(q:IntKind)(w:World)(b m:Nat)(f:α→Option Nat):Prop:=
 ∃D:DataW Unit,w.ownsMap Tryz.prog K (plainElem Tryz.prog E) b m D∧ ∀x l,keyOf Tryz.prog K (en x)=some l→Maps.has D l=(f x).isSome∧D.atKey l (.lit (.int q 0))= .lit (.int q (((f x).getD 0:Nat):Int))
section
variable {α:Type} {en:α→Value} {K E:TypeId} {q:IntKind} {w w':World} {b m:Nat} {f:α→Option Nat}
theorem MapHas.move (h:MapHas en K E q w b m f)(e:w'.heap[b]?=w.heap[b]?):MapHas en K E q w' b m f:=by
 obtain⟨D,⟨es,clock,hb,r⟩,h2⟩:=h
 exact⟨D,⟨es,clock,e.trans hb,r⟩,h2⟩
theorem MapHas.lt (h:MapHas en K E q w b m f):b < w.heap.size:=by
 obtain⟨D,h1,_⟩:=h
 exact h1.lt
theorem MapHas.below (h:MapHas en K E q w b m f)(hb:Below w.heap.size w w'):MapHas en K E q w' b m f:=h.move (hb.block _ h.lt)
theorem MapHas.made (w:World):MapHas en K E q (w.alloc (.map #[] 0)) w.heap.size 0 (fun _=>none):=
 ⟨.map [],World.ownsMap_made _ _ _ _,fun _ _ _=>⟨rfl,rfl⟩⟩
theorem MapHas.notCells (h:MapHas en K E q w b m f){cs:Array Value}{t:TypeId}{z:Nat×Nat}{i:Nat}(hc:w.heap[i]?=some (.cells cs t z)):i≠b:=by
 obtain⟨D,⟨es,clock,hb,r⟩,h2⟩:=h
 rintro rfl
 rw[hc] at hb
 cases hb
end
section
variable {α:Type} {en:α→Value} {K E:TypeId} {q:IntKind} {w:World} {b n:Nat} {f:α→Option Nat} {ops:Array Oper} {rest:List Oper} {o:Oper} {a:Act} {Q:Exit→Act→World→Prop}
theorem op_look_ok {K':Act→World→Prop}(m x:Operand)(t:TypeId)(hop:o.op=Op.lookup t m x true)(Kd:Maps.Keyed Tryz.prog K)(ht:Tryz.prog.underlying t=some (.map K E))(he:Tryz.prog.underlying E=some (.int q))(hz: ∀w,(zeroValue E).run Tryz.prog w= .ok (.int q 0) w)
  (h:MapHas en K E q w b n f) (hm:a.eval m= .map (some b)) (k:α) (hx:a.eval x=en k) (hkey: ∃l,keyOf Tryz.prog K (en k)=some l) (y:Nat) (hy:(f k).getD 0=y) (s:Bool) (hs:(f k).isSome=s) (hK:K' (a.put o.dst (.tuple #[.int q (y:Int),.bool s])) w):o.wp Tryz.prog a w K' Q:=by
 obtain⟨D,h1,h2⟩:=h
 obtain⟨l,hl⟩:=hkey
 obtain⟨v,ps,hrun,hv⟩:=h1.look_ok Kd ht (hz w) (plainElem_int he (by cases q <;> decide)) hl
 obtain⟨c,rfl,hc,-⟩:=plainElem_int_inv he hv
 have hc:=congrArg Prod.fst hc
 simp only at hc
 rw[(h2 k l hl).2] at hc
 injection hc with hc
 injection hc with _ hc
 rw[(h2 k l hl).1,hs, ← hc,hy] at hrun
 unfold Oper.wp
 simp[execOp,hop,hm,hx,hrun,Result.andThen]
 exact hK
theorem op_put {K':Act→World→Prop} [DecidableEq α] (m x v:Operand)(t:TypeId)(hop:o.op=Op.mapUpdate t m x v)(Kd:Maps.Keyed Tryz.prog K)(ht:Tryz.prog.underlying t=some (.map K E))(he:Tryz.prog.underlying E=some (.int q))
  (inj: ∀x y,en x=en y→x=y) (h:MapHas en K E q w b n f) (hm:a.eval m= .map (some b)) (k:α) (hx:a.eval x=en k) (hkey: ∃l,keyOf Tryz.prog K (en k)=some l) (z:Nat) (hv:a.eval v= .int q (z:Int)) (hwf:(Lit.int q (z:Int)).wf=true) (hn:n < maxLen)
  (hK: ∀w',MapHas en K E q w' b (n+1) (putF f k z)→w.grownBy w' (some b)→K' (a.put o.dst undef) w'):o.wp Tryz.prog a w K' Q:=by
 obtain⟨D,h1,h2⟩:=h
 obtain⟨l,hl⟩:=hkey
 have hT:=h1.tidy Kd
 have hkl:=Kd.key hl
 obtain⟨w',hrun,r1,r2⟩:=h1.update Kd ht hn hl (plainElem_int he hwf)
 unfold Oper.wp
 simp[execOp,hop,hm,hx,hv,hrun,Result.andThen]
 refine hK w' ⟨D.put l (.lit (.int q (z:Int))),r1,fun y l' hl'=> ?_⟩ r2
 by_cases e:l'=l
 ·subst e
  obtain rfl:y=k:=inj _ _ (Kd.inj hl' hl)
  rw[putF_same]
  exact⟨Maps.has_put_same hT.isMap hkl _,Maps.atKey_put_same hT.isMap hkl _ _⟩
 ·have hne:y≠k:=fun e'=>by
   subst e'
   rw[hl] at hl'
   exact e (Option.some.inj hl').symm
  rw[putF_other hne,Maps.has_put_other e,Maps.atKey_put_other e]
  exact h2 y l' hl'
end
def enT (x:Nat×ByteArray):Value:=tieV x.1 x.2
theorem enT_inj (x y:Nat×ByteArray)(h:enT x=enT y):x=y:=by
 obtain⟨x1,x2⟩:=x
 obtain⟨y1,y2⟩:=y
 simp[enT,tieV] at h
 simp only[Prod.mk.injEq]
 exact⟨by omega,h.2⟩
theorem lawT:Maps.Keyed Tryz.prog 210:=Maps.Keyed.of_law (deep_law_laid laidP (m:=3) (by omega) (of_decide_eq_true (by kernel_rfl)) (by kernel_rfl) (by rw[Tryz.underlying210]))
theorem cells210:Tryz.prog.cellsOf 210=2:=by kernel_rfl
theorem type210:Tryz.prog.keyType 210=true:=by kernel_rfl
theorem cells9:Tryz.prog.cellsOf 9=1:=by kernel_rfl
theorem lits_str {P:Program}{d:Nat}{t:TypeId}{s:ByteArray}(h:P.underlying t=some .string)(hs:s.size≤maxLen):P.keyLits (d+1) t [.string s]=some [.string s.data.toList]:=by
 unfold Program.keyLits
 simp only[h]
 rw[if_pos hs]
set_option maxRecDepth 100000 in
theorem keyT {x:Nat×ByteArray}(h0:x.1 < 18446744073709551616)(h1:x.2.size≤maxLen): ∃l,keyOf Tryz.prog 210 (enT x)=some l:=by
 have w0:=wf64 h0
 refine⟨.string (keyBytes [.int .u64 (x.1:Int),.string x.2.data.toList]),?_⟩
 unfold keyOf
 simp only[Tryz.underlying210]
 rw[if_pos (by simp[type210,Value.formed,enT,tieV,Tryz.underlying210,cells210]),sizeP]
 unfold Program.keyLits
 simp only[Tryz.underlying210,enT,tieV,Value.cells]
 rw[if_pos (by simp[cells210])]
 simp only[List.mapM_cons,List.mapM_nil,cells42,cells9,List.drop_zero,List.drop_succ_cons,List.take_succ_cons,List.take_zero]
 rw[lits_int Tryz.underlying60 w0,lits_str Tryz.underlying9 h1]
 rfl
theorem pk_size (r:Nat→Bool)(n:Nat):(pk r n).size=n:=by
 show(pkL r n).toArray.size=n
 simp[pkL]
end Go.Proofs.YtmejhedegmjboaaGreat.I
