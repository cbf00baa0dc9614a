import Derived.RangeFuncWrites
import Derived.Maps.OwnIn
import Derived.Test.YtmejhedegmjboaaGreatOf
import Derived.Test.YtmejhedegmjboaaGreatTd4
set_option maxRecDepth 100000
set_option maxHeartbeats 8000000
namespace Go.Proofs.YtmejhedegmjboaaGreat
open Go Go.RowKit
def Zm0 {α:Type}(B:Nat)(Kp:World→World→Prop)(I:List α→World→Prop)(xs:List α)(W:World):Exit→Act→World→Prop
 | .normal,_,W'=>KeepsFrom B W W'∧Kp W W'∧I xs W'
 |_,_,_=>False
theorem Zbn {α:Type}{P:Program}{n:Nat}{g:Operand}{ps:Array Tmp}{assign body:Code}{Q:Exit→Act→World→Prop}{a:Act}{w:World}{gf:Nat}{lb:Array Value}
  (hg:a.eval g= .func (.func gf) #[] lb) (eg: ∀args w,(callFunc gf args).run P w= .ok (.enter gf args) w) {encs:α→Array Value} {St Kp:World→World→Prop} {ys:List α} (hseq:Comes P (n - 1) gf lb encs St Kp ys w)
  (ht: ∀{A B C:World},Kp A B→Kp B C→Kp A C) (hb: ∀(W:World) (l:Nat) (o o':Obj),w.heap.size≤l→W.heap[l]?=some o→o.isCells=false→Kp W (W.putObj l o')) (hs: ∀{A B:World},St A B→KeepsFrom w.heap.size A B) (hsz: ∀x,(encs x).size=ps.size)
  (I:List α→World→Prop) (hI:OwnFrom w.heap.size I) (hIs: ∀pre A B,I pre A→St A B→I pre B) (h0:I [] w) (a₁:α→Act)
  (hassign: ∀(l:Nat) (x:α) (W:World) (K:Act→World→Prop),K (a₁ x) W→
   assign.wpIn (Fence.wide.inRound l) (n - 1 - 1) P (Exit.then K (fun _ _ _=>False)) {tmps:=(ps.zip (encs x)).foldl (fun t (p,v)=>t.setIfInBounds p v) a.tmps,defers:= []} W)
  (hbody: ∀(l:Nat) (pre:List α) (x:α) (W:World),I pre W→pre.length < ys.length→body.wpIn (Fence.wide.inRound l) (n - 1 - 1) P (Zm0 w.heap.size Kp I (pre++ [x]) W) (a₁ x) W)
  (hdone: ∀(D:Nat) (W:World),w.heap.size≤D→I ys W→W.heap[D]?=some (.deferred (some []))→Q .normal {a with defers:={target:= .collected D,args:= #[]}::a.defers} W):
  (Code.rangeFunc g ps assign body).wpIn Fence.wide n P Q a w:=by
 refine wpIn_rangeFunc fun fn hfn=> ?_
 have hlaid: ∀st:LoopState,∃r:Loop,r={state:=st,pending:=none,fn,tmps:=a.tmps,params:=ps,assign,body,defers:=w.heap.size}:=fun _=>⟨_,rfl⟩
 obtain⟨r,hr⟩:=hlaid .ready
 obtain⟨rb,hrb⟩:=hlaid .busy
 obtain⟨W1,hW1⟩: ∃W1,W1=(w.alloc (.deferred (some []))).alloc (.loop r):=⟨_,rfl⟩
 have hl1:W1.heap[w.heap.size+1]?=some (.loop r):=by(
 have:=heap_alloc_new (w.alloc (.deferred (some []))) (.loop r)
 rw[World.size_alloc] at this
 rw[hW1]
 exact this)
 have hd1:W1.heap[w.heap.size]?=some (.deferred (some [])):=by
  rw[hW1]
  exact(Below.heap_alloc _ _ _ (by simp)).trans (heap_alloc_new w _)
 have hb1:Below w.heap.size w W1:=by
  rw[hW1]
  exact((Below.refl _ w).alloc lR _).alloc (by simp) _
 refine⟨w.heap.size+1,[{target:= .collected w.heap.size,args:= #[]}],W1,{target:= .fn (.func gf) lb,args:= #[.func (.yield (w.heap.size+1)) #[] #[]]},W1,gf,#[.func (.yield (w.heap.size+1)) #[] #[]]++lb,W1,?_,?_,fun _ _=>trivial,?_,fun e=>(by cases e),?_⟩
 ·rw[hW1,hr]
  exact run_enterLoop_outer _ _ _ _ _
 ·simp only[resolve,hg]
  simp[go_sem]
 ·simp[invoke,go_sem,eg]
 refine(hseq (w.heap.size+1) (fun pre W=>I pre W∧W.heap[w.heap.size+1]?=some (.loop r)∧W.heap[w.heap.size]?=some (.deferred (some []))) W1 hb1
  (fun pre A B h k=>⟨hIs pre A B h.1 k,(hs k).same _ _ (Nat.le_succ _) h.2.1 rfl,(hs k).same _ _ lR h.2.2 rfl⟩) ?_ ⟨by rw[hW1];exact hI.alloc _ (hI.alloc _ h0),hl1,hd1⟩).mono ?_
 ·(
 rintro pre x W ⟨hi,hl,hd⟩ hlen
 have hlt:w.heap.size+1 < W.heap.size:=(Array.getElem?_eq_some_iff.1 hl).1
 have hy:=run_yield (P:=P) (args:=encs x) hl (by rw[hr];exact hsz x)
 have hst:r.state= .ready:=by rw[hr]
 have hbz:{r with state:= .busy}=rb:=by rw[hr,hrb]
 have hbeg:=run_beginRound (P:=P) hl hst
 rw[hbz] at hbeg
 have e1:r.fn=fn:=by rw[hr]
 have e2:r.assign=assign:=by rw[hr]
 have e3:r.body=body:=by rw[hr]
 have e4:r.tmps=a.tmps:=by rw[hr]
 have e5:r.params=ps:=by rw[hr]
 rw[e1,e2,e3,e4,e5] at hy
 have hl2:(W.putObj (w.heap.size+1) (.loop rb)).heap[w.heap.size+1]?=some (.loop rb):=World.putObj_heap_same hlt
 have hd2:(W.putObj (w.heap.size+1) (.loop rb)).heap[w.heap.size]?=some (.deferred (some [])):=(World.putObj_heap_other (by omega)).trans hd
 refine⟨fn,_,assign,body,hy,roundIn_of_wpIn hfn (hassign _ x W _ ⟨_,hbeg,?_⟩)⟩
 refine wpIn_mono (hbody _ pre x _ (hI.putObj _ hi (by omega) hl rfl) hlen) ?_
 rintro e a3 W3 hp
 cases e with
 |normal=>(
 obtain⟨k1,k2,k3⟩:=hp
 have hl3:=k1.same _ _ (Nat.le_succ _) hl2 rfl
 have hd3:=k1.same _ _ lR hd2 rfl
 have hend:=run_endRound (P:=P) none hl3
 have hrd:({rb with state:=if (none:Option Code).isNone then .ready else .done,pending:=none}:Loop)=r:=by rw[hr,hrb];rfl
 rw[hrd] at hend
 exact⟨_,_,hend,rfl,⟨hI.putObj _ k3 (by omega) hl3 rfl,World.putObj_heap_same (Array.getElem?_eq_some_iff.1 hl3).1,(World.putObj_heap_other (by omega)).trans hd3⟩,ht (ht (hb _ _ _ _ (by omega) hl rfl) k2) (hb _ _ _ _ (by omega) hl3 rfl)⟩)
 |ret=>exact hp.elim
 |exit id=>exact hp.elim
 |goto t=>exact hp.elim
 |panic ch=>exact hp.elim
 |outgrown=>exact hp.elim)
 ·(
 rintro e W2 ⟨⟨v,rfl⟩,hi,hl,hd⟩
 have hfin:=run_endLoop (P:=P) hl (by rw[hr];simp)
 have hpe:r.pending=none:=by rw[hr]
 rw[hpe] at hfin
 exact⟨none,_,hfin,hdone _ _ lR (hI.putObj _ hi (by omega) hl rfl) ((World.putObj_heap_other (by omega)).trans hd)⟩)
end Go.Proofs.YtmejhedegmjboaaGreat
namespace Go.Proofs.YtmejhedegmjboaaGreat
open Go Go.RowKit
attribute [local go_sem] Oper.semAt_some
structure KpM (n₀:Nat)(A B:World):Prop where
 bel:Below n₀ A B
 keep: ∀(b:Nat) (cs:Array Value) (t:TypeId) (z:Nat×Nat),A.heap[b]?=some (.cells cs t z)→B.heap[b]?=some (.cells cs t z)
theorem KpM.trans {n₀:Nat}{A B C:World}(h:KpM n₀ A B)(k:KpM n₀ B C):KpM n₀ A C:=
 ⟨h.bel.trans k.bel,fun b cs t z hb=>k.keep b cs t z (h.keep b cs t z hb)⟩
theorem KpM.refl (n₀:Nat)(A:World):KpM n₀ A A:=⟨Below.refl _ _,fun _ _ _ _ h=>h⟩
theorem KpM.behind {n₀:Nat}{A B:World}(h:Below A.heap.size A B)(hn:n₀≤A.heap.size):KpM n₀ A B:=⟨h.mono hn,fun b _ _ _ hb=>(h.block b (Zh hb)).trans hb⟩
theorem KpM.put {n₀:Nat}{w:World}(hn:n₀≤w.heap.size)(W:World)(l:Nat)(o o':Obj)(hl:w.heap.size≤l)(h:W.heap[l]?=some o)(h1:o.isCells=false):KpM n₀ W (W.putObj l o'):=
 ⟨(Below.refl n₀ W).grown (grownBy_putObj' W l o') (by have:=Zh h;omega) (fun k e=>by cases e;omega),fun b cs t z hb=>by
  have:b≠l:=by(
 rintro rfl
 rw[hb] at h
 cases h
 cases h1)
  exact(World.putObj_heap_other (by omega)).trans hb⟩
theorem KpM.of_grown {n₀ B:Nat}{W W':World}{row:Option Nat}(hg:W.grownBy W' row)(hr: ∀r,row=some r→B≤r∧ ∃o:Obj,W.heap[r]?=some o∧o.isCells=false)(hB:n₀≤B)(hs:n₀≤W.heap.size):KpM n₀ W W':=
 ⟨(Below.refl n₀ W).grown hg hs fun j e=>Nat.le_trans hB (hr j e).1,fun b cs t z hb=>(hg.block b (Zh hb) fun e=>by
  obtain⟨_,o,ho,hc⟩:=hr b e.symm
  rw[hb] at ho
  cases ho
  cases hc).trans hb⟩
theorem KpM.cell {n₀:Nat}{A B:World}(h:KpM n₀ A B){p:Addr}{v:Value}(hc:A.cell? p=some v):B.cell? p=some v:=by
 obtain⟨cs,t,z,hb⟩: ∃cs t z,A.heap[p.block]?=some (.cells cs t z):=by(
 unfold World.cell? at hc
 split at hc
 ·rename_i cs t z hb
  exact⟨cs,t,z,hb⟩
 ·cases hc)
 exact(World.cell?_of_block (a:=p) ((h.keep _ _ _ _ hb).trans hb.symm)).trans hc
def bwA (l:List Nat)(k:Fin l.length):Array Value:= #[.int .i64 (k.val:Int),.int .i64 (l[k.val]:Int)]
def bwY (n:Nat):List (Fin n):=(List.finRange n).reverse
theorem Zh1 {n k:Nat}(h:k < n):(bwY n).take (n - (k+1))++ [⟨k,h⟩]=(bwY n).take (n - k):=by
 have e:n - k=n - (k+1)+1:=by omega
 rw[e,List.take_succ_eq_append_getElem (by simp[bwY];omega)]
 congr 1
 simp only[bwY,List.getElem_reverse,List.getElem_finRange,List.length_finRange]
 congr 1
 apply Fin.ext
 show k=n - 1 - (n - (k+1))
 omega
theorem Zc8 (l:List Nat):(bwY l.length).map (fun x=>l[x.val])=l.reverse:=by
 unfold bwY
 rw[List.map_reverse]
 congr 1
 apply List.ext_getElem (by simp)
 intro i h1 h2
 simp
theorem Zbo (nn Bn n₀:Nat)(b o n c:Nat)(l:List Nat)(hl:l.length=n)(w:World)(hn:n≤1000)(A:Option Addr)(hA:0 < n→A=some ⟨b,o,none⟩)(hcn:w.cell? ⟨Bn,0,none⟩=some (.slice A n c))(hc: ∀k (h:k < l.length),w.cell? ⟨b,o+k,none⟩=some (.int .i64 (l[k]:Int))):
  Comes Tryz.prog nn 155 #[.pointer (some ⟨Bn,0,none⟩)] (bwA l) (fun X Y=>X=Y) (KpM n₀) (bwY l.length) w:=by
 intro yl J W hW _ hY h0
 have HY:=Hd hY
 have HN:=Hd hn
 have HCN:Hid (∀V,KpM n₀ W V→V.cell? ⟨Bn,0,none⟩=some (.slice A n c)):=Hd fun V hV=>hV.cell (Za hcn hW)
 have HC:Hid (∀V,KpM n₀ W V→ ∀k (h:k < l.length),V.cell? ⟨b,o+k,none⟩=some (.int .i64 (l[k]:Int))):=Hd fun V hV k hk=>hV.cell (Za (hc k hk) hW)
 have HA:=Hd hA
 have HLN:=Hd hl
 have hsub:wrap64 ((n:Int) - 1)=(n:Int) - 1:=by unfold wrap64;omega
 have hcn0:=HCN.out W (KpM.refl _ _)
 clear hY hn hcn hc hA hW hl
 refine callsIn_of_wp Tryz.func155 rfl trivial ?_ rfl
 simp only[Tryz.ntmps155,List.size_toArray,List.length_cons,List.length_nil,Nat.reduceAdd,Nat.reduceSub,Array.replicate_succ,Array.replicate_zero,List.push_toArray,List.append_toArray,List.nil_append,List.cons_append]
 gi_wp2
 gi_loopw [3] (fun v3 wr=> ∃(q:Nat) (j:Int),v3= .int .i64 j∧Hid (j=(q:Int) - 1)∧q≤n∧J ((bwY l.length).take (n - q)) wr∧KpM n₀ W wr) (fun v3 _=>(intOf v3+1).toNat)
 case atStart=>exact⟨n,_,rfl,Hd rfl,Nat.le_refl _,by rw[Nat.sub_self];exact h0,KpM.refl _ _⟩
 case round=>(
 obtain⟨q,j,rfl,hj,hq,hJ,hk⟩:=hrel
 have HJ:=Hd hJ
 have HK:=Hd hk
 cases q with
 |zero=>(
 obtain rfl:j= -1:=by have:=hj.out;omega
 clear hq hJ hk h0 hcn0
 gi_wp2
 go_end0
 exact⟨⟨_,rfl⟩,by
  have:=HJ.out
  rw[Nat.sub_zero,List.take_of_length_le (by have:=HLN.out;simp[bwY];omega)] at this
  exact this⟩)
 |succ k=>(
 obtain rfl:j=(k:Int):=by have:=hj.out;omega
 have hkn:k < n:=hq
 have HKN:=Hd hkn
 have hkl:k < l.length:=by have:=HLN.out;omega
 have d0:=HC.out _ hk k hkl
 have d1:=HCN.out _ hk
 obtain rfl:A=some ⟨b,o,none⟩:=HA.out (by omega)
 have hin:(k:Int) < (n:Int):=by omega
 have hk9:k≤60000:=by have:=HN.out;omega
 have hge:(k:Int)≥0:=by omega
 have hsk:wrap64 ((k:Int) - 1)=(k:Int) - 1:=by unfold wrap64;omega
 obtain⟨fn,tmps,assign,body,hy,hR⟩:=HY.out _ ⟨k,hkl⟩ _ hJ (by have:=HLN.out;rw[List.length_take];simp[bwY];omega)
 unfold bwA at hy
 have hR':=hR.mono (R':=fun e W'=>e= .returned (.bool true)∧Hid (J ((bwY l.length).take (n - k)) W'∧KpM n₀ W W')) (by
 rintro e W' ⟨rfl,h1,h2⟩
 have e:=Zh1 hkl
 have hln:=HLN.out
 rw[show n - (k+1)=l.length - (k+1) by omega,e,show l.length - k=n - k by omega] at h1
 exact⟨rfl,Hd ⟨h1,HK.out.trans h2⟩⟩)
 clear hR hJ hk hq h0 hcn0 hkn HA hsub
 generalize l[k]=x at*
 gi_wp2
 refine⟨fun e=>(by cases e),hR'.mono ?_⟩
 rintro e W3 ⟨rfl,HJ3⟩
 clear hy hR' d0 d1
 gi_wp2
 go_roundw
 case rel=>exact⟨k,_,rfl,Hd rfl,Nat.le_of_lt HKN.out,HJ3.out.1,HJ3.out.2⟩
 case measure=>simp[intOf]))
end Go.Proofs.YtmejhedegmjboaaGreat
namespace Go.Proofs.YtmejhedegmjboaaGreat.I
open Go.RowKit PaC
def ZV {α:Type}(en:α→Value)(K E:TypeId)(q:IntKind)(w:World)(b m:Nat)(f:α→Option Nat):Prop:=
 ∃D:DataW Unit,w.ownsMap Tryz.prog K (plainElem Tryz.prog E) b m D∧ ∀x l,keyOf Tryz.prog K (en x)=some l→Maps.has D l=(f x).isSome∧D.atKey l (.lit (.int q 0))= .lit (.int q (((f x).getD 0:Nat):Int))
section
variable {α:Type} {en:α→Value} {K E:TypeId} {q:IntKind} {w w':World} {b m:Nat} {f:α→Option Nat}
theorem ZV.move (h:ZV en K E q w b m f)(e:w'.heap[b]?=w.heap[b]?):ZV en K E q w' b m f:=by
 obtain⟨D,⟨es,clock,hb,r⟩,h2⟩:=h
 exact⟨D,⟨es,clock,e.trans hb,r⟩,h2⟩
theorem ZV.lt (h:ZV en K E q w b m f):b < w.heap.size:=by
 obtain⟨D,h1,_⟩:=h
 exact h1.lt
theorem ZV.below (h:ZV en K E q w b m f)(hb:Below w.heap.size w w'):ZV en K E q w' b m f:=h.move (hb.block _ h.lt)
theorem ZV.made (w:World):ZV en K E q (w.alloc (.map #[] 0)) w.heap.size 0 (fun _=>none):=
 ⟨.map [],World.ownsMap_made _ _ _ _,fun _ _ _=>⟨rfl,rfl⟩⟩
theorem ZV.notCells (h:ZV en K E q w b m f){cs:Array Value}{t:TypeId}{z:Nat×Nat}{i:Nat}(hc:w.heap[i]?=some (.cells cs t z)):i≠b:=by
 obtain⟨D,⟨es,clock,hb,r⟩,h2⟩:=h
 rintro rfl
 rw[hc] at hb
 cases hb
end
section
variable {α:Type} {en:α→Value} {K E:TypeId} {q:IntKind} {w:World} {b n:Nat} {f:α→Option Nat} {ops:Array Oper} {rest:List Oper} {o:Oper} {a:Act} {Q:Exit→Act→World→Prop}
theorem RG {K':Act→World→Prop}(m x:Operand)(t:TypeId)(hop:o.op=Op.lookup t m x true)(Kd:Maps.Keyed Tryz.prog K)(ht:Tryz.prog.underlying t=some (.map K E))(he:Tryz.prog.underlying E=some (.int q))(hz: ∀w,(zeroValue E).run Tryz.prog w= .ok (.int q 0) w)
  (h:ZV en K E q w b n f) (hm:a.eval m= .map (some b)) (k:α) (hx:a.eval x=en k) (hkey: ∃l,keyOf Tryz.prog K (en k)=some l) (y:Nat) (hy:(f k).getD 0=y) (s:Bool) (hs:(f k).isSome=s) (hK:K' (a.put o.dst (.tuple #[.int q (y:Int),.bool s])) w):o.wp Tryz.prog a w K' Q:=by
 obtain⟨D,h1,h2⟩:=h
 obtain⟨l,hl⟩:=hkey
 obtain⟨v,ps,hrun,hv⟩:=h1.look_ok Kd ht (hz w) (plainElem_int he (by cases q <;> decide)) hl
 obtain⟨c,rfl,hc,-⟩:=plainElem_int_inv he hv
 have hc:=congrArg Prod.fst hc
 simp only at hc
 rw[(h2 k l hl).2] at hc
 injection hc with hc
 injection hc with _ hc
 rw[(h2 k l hl).1,hs, ← hc,hy] at hrun
 unfold Oper.wp
 simp[execOp,hop,hm,hx,hrun,Result.andThen]
 exact hK
theorem Zje {K':Act→World→Prop} [DecidableEq α] (m x v:Operand)(t:TypeId)(hop:o.op=Op.mapUpdate t m x v)(Kd:Maps.Keyed Tryz.prog K)(ht:Tryz.prog.underlying t=some (.map K E))(he:Tryz.prog.underlying E=some (.int q))
  (inj: ∀x y,en x=en y→x=y) (h:ZV en K E q w b n f) (hm:a.eval m= .map (some b)) (k:α) (hx:a.eval x=en k) (hkey: ∃l,keyOf Tryz.prog K (en k)=some l) (z:Nat) (hv:a.eval v= .int q (z:Int)) (hwf:(Lit.int q (z:Int)).wf=true) (hn:n < maxLen)
  (hK: ∀w',ZV en K E q w' b (n+1) (putF f k z)→w.grownBy w' (some b)→K' (a.put o.dst undef) w'):o.wp Tryz.prog a w K' Q:=by
 obtain⟨D,h1,h2⟩:=h
 obtain⟨l,hl⟩:=hkey
 have hT:=h1.tidy Kd
 have hkl:=Kd.key hl
 obtain⟨w',hrun,r1,r2⟩:=h1.update Kd ht hn hl (plainElem_int he hwf)
 unfold Oper.wp
 simp[execOp,hop,hm,hx,hv,hrun,Result.andThen]
 refine hK w' ⟨D.put l (.lit (.int q (z:Int))),r1,fun y l' hl'=> ?_⟩ r2
 by_cases e:l'=l
 ·subst e
  obtain rfl:y=k:=inj _ _ (Kd.inj hl' hl)
  rw[Vx]
  exact⟨Maps.has_put_same hT.isMap hkl _,Maps.atKey_put_same hT.isMap hkl _ _⟩
 ·have hne:y≠k:=fun e'=>by
   subst e'
   rw[hl] at hl'
   exact e (Option.some.inj hl').symm
  rw[VA hne,Maps.has_put_other e,Maps.atKey_put_other e]
  exact h2 y l' hl'
end
def enT (x:Nat×ByteArray):Value:=tieV x.1 x.2
theorem Zf7 (x y:Nat×ByteArray)(h:enT x=enT y):x=y:=by
 obtain⟨x1,x2⟩:=x
 obtain⟨y1,y2⟩:=y
 simp[enT,tieV] at h
 simp only[Prod.mk.injEq]
 exact⟨by omega,h.2⟩
theorem lawT:Maps.Keyed Tryz.prog 210:=Maps.Keyed.of_law (deep_law_laid Zk9 (m:=3) (by omega) (of_decide_eq_true (by kernel_rfl)) (by kernel_rfl) (by rw[Tryz.underlying210]))
theorem Zdd:Tryz.prog.cellsOf 210=2:=by kernel_rfl
theorem ZkI:Tryz.prog.keyType 210=true:=by kernel_rfl
theorem cells9:Tryz.prog.cellsOf 9=1:=by kernel_rfl
theorem Zib {P:Program}{d:Nat}{t:TypeId}{s:ByteArray}(h:P.underlying t=some .string)(hs:s.size≤maxLen):P.keyLits (d+1) t [.string s]=some [.string s.data.toList]:=by
 unfold Program.keyLits
 simp only[h]
 rw[if_pos hs]
theorem keyT {x:Nat×ByteArray}(h0:x.1 < 18446744073709551616)(h1:x.2.size≤maxLen): ∃l,keyOf Tryz.prog 210 (enT x)=some l:=by
 have w0:=wf64 h0
 refine⟨.string (keyBytes [.int .u64 (x.1:Int),.string x.2.data.toList]),?_⟩
 unfold keyOf
 simp only[Tryz.underlying210]
 rw[if_pos (by simp[ZkI,Value.formed,enT,tieV,Tryz.underlying210,Zdd]),Zlb]
 unfold Program.keyLits
 simp only[Tryz.underlying210,enT,tieV,Value.cells]
 rw[if_pos (by simp[Zdd])]
 simp only[List.mapM_cons,List.mapM_nil,cells42,cells9,List.drop_zero,List.drop_succ_cons,List.take_succ_cons,List.take_zero]
 rw[UY Tryz.underlying60 w0,Zib Tryz.underlying9 h1]
 rfl
theorem Zf8 (r:Nat→Bool)(n:Nat):(pk r n).size=n:=by
 show(pkL r n).toArray.size=n
 simp[pkL]
end Go.Proofs.YtmejhedegmjboaaGreat.I
namespace Go.Proofs.YtmejhedegmjboaaGreat.I
open Go.RowKit PaC
attribute [local go_sem] Oper.semAt_some
abbrev Tk:=Nat→Nat×ByteArray
def hmP (tk:Tk):List Nat→Nat×ByteArray→Option Nat:=fun vs=>vs.foldl (fun g b=>putF g (tk b) b) (fun _=>none)
theorem Zat (tk:Tk)(vs:List Nat)(b:Nat):hmP tk (vs++ [b])=putF (hmP tk vs) (tk b) b:=by unfold hmP;rw[List.foldl_append];rfl
theorem Zgf (tk:Tk)(dl:List Nat):hmP tk dl.reverse=fun key=>dl.find? fun b=>decide (tk b=key):=by
 funext key
 induction dl with
 |nil=>rfl
 |cons b dl ih=>(
 rw[List.reverse_cons,Zat,List.find?_cons]
 by_cases e:key=tk b
 ·rw[e,Vx,decide_eq_true rfl]
 ·rw[VA e,decide_eq_false (Ne.symm e),ih])
def mgL (tk:Tk)(dl:List Nat)(x:Nat):Option Nat:=dl.find? fun b=>decide (tk b=tk x)
def stL (tk:Tk)(dl:List Nat)(L:List Nat)(x:Nat):List Nat:=match mgL tk dl x with
 |some b=>L.set x b
 |none=>L
theorem ZkP (tk:Tk)(dl L:List Nat)(x:Nat):(stL tk dl L x).length=L.length:=by
 unfold stL
 split
 ·rw[List.length_set]
 ·rfl
def stA (tk:Tk)(dl L cl:List Nat):List Nat:=cl.foldl (stL tk dl) L
theorem YR (tk:Tk)(dl:List Nat): ∀(cl L:List Nat),(stA tk dl L cl).length=L.length
 | [],_=>rfl
 |x::cl,L=>by
  show(stA tk dl (stL tk dl L x) cl).length=_
  rw[YR tk dl cl,ZkP]
theorem Zdg {tk:Tk}{dl L cl:List Nat}{k:Nat}(h:k < cl.length):stA tk dl L (cl.take (k+1))=stL tk dl (stA tk dl L (cl.take k)) cl[k]:=by
 unfold stA
 rw[List.take_succ_eq_append_getElem h,List.foldl_append]
 rfl
def otL (tk:Tk)(dl cl:List Nat):List Nat:=cl.filter fun x=>(mgL tk dl x).isNone
theorem Zij {tk:Tk}{dl cl:List Nat}{k b:Nat}(h:k < cl.length)(e:mgL tk dl cl[k]=some b):otL tk dl (cl.take (k+1))=otL tk dl (cl.take k):=by
 unfold otL
 rw[List.take_succ_eq_append_getElem h,List.filter_append,List.filter_cons_of_neg (by rw[e];simp),List.filter_nil,List.append_nil]
theorem Zik {tk:Tk}{dl cl:List Nat}{k:Nat}(h:k < cl.length)(e:mgL tk dl cl[k]=none):otL tk dl (cl.take (k+1))=otL tk dl (cl.take k)++ [cl[k]]:=by
 unfold otL
 rw[List.take_succ_eq_append_getElem h,List.filter_append,List.filter_cons_of_pos (by rw[e];rfl),List.filter_nil]
theorem Zjf (tk:Tk)(dl cl:List Nat)(k:Nat):(otL tk dl (cl.take k)).length≤cl.length:=by
 unfold otL
 have h1:=List.length_filter_le (fun x=>(mgL tk dl x).isNone) (cl.take k)
 have h2:=List.length_take_le k cl
 rw[List.length_take] at h1
 omega
theorem V3 {F:Fence}{nF:Nat}(hF:Open F Tryz.prog){w:World}{ops:Array Oper}{rest:List Oper}{o:Oper}{a:Act}{Q:Exit→Act→World→Prop}(hgd:o.guard=none)(s x:Operand)
  (ho:o.op= .call {callee:= .builtin .append,args:= #[s,x],argTypes:= #[82,82]})
  (base:Nat) (v:Value) (n:Nat) (vs:List Nat) (hs:a.eval s=v) (hown:w.ownsRow base 3 1 v n (vs.flatMap en3)) (B:Nat) (A:Option Addr) (m c:Nat) (ms:List Nat) (hx:a.eval x= .slice A m c) (hr:Rs en3 1 w B A m c ms)
  (hsm:n+m≤100000) (hbase:base≤w.heap.size)
  (h: ∀A' k c' w',Hid (k=n+m)→Hid (Appended w w' base 3 1 v (.slice A' k c') k ((vs++ms).flatMap en3))→wpListIn F nF Tryz.prog ops Q rest (a.put o.dst (.slice A' k c')) w'):wpListIn F nF Tryz.prog ops Q (o::rest) a w:=
 wpListIn_plain hgd fun _ hK=>ZeC hF (by rw[ho];intro c e;cases e) (Bo.Z9 Zz (by decide) Y2 Tryz.underlying82 Y3 rfl (by decide) s x ho base v n vs hs hown B A m c ms hx hr hsm hbase fun A' k c' w' g1 g2=>hK _ _ (h A' k c' w' g1 g2))
theorem Zjg (nn:Nat)(A:Option Addr)(m c:Nat)(w:World):
  CallsIn Fence.wide nn Tryz.prog 129 #[.slice A m c] w fun e w'=>e= .returned (.func (.func 155) #[] #[.pointer (some ⟨w.heap.size,0,none⟩)])∧w'=w.alloc (.cells #[.slice A m c] 82):=by
 refine callsIn_of_wp Tryz.func129 rfl trivial ?_ rfl
 simp only[Tryz.ntmps129,List.size_toArray,List.length_cons,List.length_nil,Nat.reduceAdd,Nat.reduceSub,Array.replicate_succ,Array.replicate_zero,List.push_toArray,List.append_toArray,List.nil_append,List.cons_append]
 gi_wp2
 go_ret
 exact⟨rfl,rfl⟩
def Shows (D:Nat→Prop)(w:World)(A:Option Addr)(n:Nat)(b o:Nat)(l:List Nat):Prop:=
 l.length=n∧(0 < n→A=some ⟨b,o,none⟩)∧ ∀W,Kept D w W→ ∀k (h:k < l.length),W.cell? ⟨b,o+k,none⟩=some (.int .i64 (l[k]:Int))
theorem Shows.of {D:Nat→Prop}{w:World}{A:Option Addr}{n c:Nat}{l:List Nat}(h:Rd nmI w w.heap.size A n c l)(hD: ∀b o,A=some ⟨b,o,none⟩→ ¬D b): ∃b o,Shows D w A n b o l:=by
 by_cases hn:0 < n
 ·obtain⟨b,o,e,hb,hc⟩:=h.spot hn
  exact⟨b,o,h.len,fun _=>e,fun W hW k hk=>(hW.cell (p:=⟨b,o+k,none⟩) hb (hD b o e)).trans (hc k hk)⟩
 ·exact⟨0,0,h.len,fun e=>absurd e hn,fun W _ k hk=>by have:=h.len;omega⟩
theorem Zv {w w':World}{base sz n:Nat}{e:TypeId}{v:Value}{xs:List Value}(h:w.ownsRow base e sz v n xs)(hq: ∀q,v.ownBlock=some q→w'.heap[q]?=w.heap[q]?):w'.ownsRow base e sz v n xs:=by
 refine⟨h.1,?_⟩
 rcases h.2 with hn|⟨g,cap,cur,rfl,hg,hgg,r⟩
 ·exact .inl hn
 ·exact .inr ⟨g,cap,cur,rfl,hg,(hq g rfl).trans hgg,r⟩
theorem Kept.then_below {D:Nat→Prop}{a w w':World}(h:Kept D a w)(hb:Below a.heap.size w w'):Kept D a w':=
 ⟨hb.os.trans h.os,hb.tape.trans h.tape,hb.output.trans h.output,Nat.le_trans h.size hb.size,fun b hl hn=>(hb.block b hl).trans (h.block b hl hn)⟩
structure Mg2 (D:Nat→Prop)(tk:Tk)(dl L cl:List Nat)(base:Nat)(O:Option Addr)(no co:Nat)(W2:World)(k:Nat)(A:Option Addr)(N c:Nat)(wr:World):Prop where
 o:wr.ownsRow W2.heap.size 3 1 (.slice A N c) N ((otL tk dl (cl.take k)).flatMap en3)
 l:wr.ownsRow base 3 1 (.slice O no co) no ((stA tk dl L (cl.take k)).flatMap en3)
 k:Kept D W2 wr
section
variable {D:Nat→Prop} {tk:Tk} {dl L cl:List Nat} {base:Nat} {O:Option Addr} {no co:Nat} {W2:World} {k:Nat} {A:Option Addr} {N c:Nat} {wr w':World}
theorem Mg2.behind (h:Mg2 D tk dl L cl base O no co W2 k A N c wr)(hb:Below wr.heap.size wr w'):Mg2 D tk dl L cl base O no co W2 k A N c w':=
 ⟨Zi h.o hb,Zi h.l hb,h.k.trans (Kept.of_below hb)⟩
theorem Mg2.add (h:Mg2 D tk dl L cl base O no co W2 k A N c wr)(hgo: ∀q,(Value.slice O no co).ownBlock=some q→q < W2.heap.size){A':Option Addr}{N' c':Nat}(hk:k < cl.length)(hn:mgL tk dl cl[k]=none)
  (ha:Appended wr w' W2.heap.size 3 1 (.slice A N c) (.slice A' N' c') N' ((otL tk dl (cl.take k)++ [cl[k]]).flatMap en3)):Mg2 D tk dl L cl base O no co W2 (k+1) A' N' c' w':=by
 have hb:Below W2.heap.size wr w':=(Below.refl _ _).grown ha.grown h.k.size fun j hj=>(h.o.lt j hj).1
 refine⟨by rw[Zik hk hn];exact ha.own,?_,Kept.then_below h.k hb⟩
 rw[Zdg hk,stL,hn]
 exact Zv h.l fun q hq=>hb.block q (hgo q hq)
theorem Mg2.set (h:Mg2 D tk dl L cl base O no co W2 k A N c wr)(hgo: ∀q,(Value.slice O no co).ownBlock=some q→q < W2.heap.size)(hD: ∀q,D q↔(Value.slice O no co).ownBlock=some q)(hk:k < cl.length){b:Nat}(hn:mgL tk dl cl[k]=some b)(hx:cl[k] < L.length):
  ∃g,O=some ⟨g,0,none⟩∧(∃u:Value,wr.cell? ⟨g,cl[k],none⟩=some u)∧wr.frozen? ⟨g,cl[k],none⟩=false∧Mg2 D tk dl L cl base O no co W2 (k+1) A N c (wr.setCell ⟨g,cl[k],none⟩ (.int .i64 (b:Int))):=by
 obtain⟨g,rfl,h1,h2,h3,h4,h5⟩:=ZaG h.l (i:=cl[k]) (by rw[YR];exact hx)
 have hg:(Value.slice (some ⟨g,0,none⟩) no co).ownBlock=some g:=rfl
 refine⟨g,rfl,⟨_,h3⟩,h4,?_,?_,h.k.setCell (p:=⟨g,cl[k],none⟩) (.inl ((hD g).2 hg)) _⟩
 ·(
 rw[Zij hk hn]
 refine Zv h.o fun q hq=>Below.heap_setCell _ _ _ q ?_
 have:=(h.o.lt q hq).1
 have:=hgo g hg
 show q≠g
 omega)
 ·rw[Zdg hk,stL,hn]
  exact h5 b
end
structure MgI (tk:Tk)(n₀ bm:Nat)(w5:World)(pre:List Nat)(W:World):Prop where
 k:KpM n₀ w5 W
 m:ZV enT 210 3 .i64 W bm pre.length (hmP tk pre)
theorem MgI.behind {tk:Tk}{n₀ bm:Nat}{w5 W W':World}{pre:List Nat}(h:MgI tk n₀ bm w5 pre W)(hb:Below W.heap.size W W')(hn:n₀≤W.heap.size):MgI tk n₀ bm w5 pre W':=
 ⟨h.k.trans (KpM.behind hb hn),h.m.below hb⟩
theorem KpM.map {n₀ bm m:Nat}{w w':World}{f:Nat×ByteArray→Option Nat}(hm:ZV enT 210 3 .i64 w bm m f)(hg:w.grownBy w' (some bm))(h1:n₀≤bm)(h2:n₀≤w.heap.size):KpM n₀ w w':=
 ⟨(Below.refl n₀ w).grown hg h2 fun k e=>by cases e;exact h1,fun b cs t z hb=>(hg.block b (Zh hb) fun e=>hm.notCells hb (by injection e)).trans hb⟩
theorem MgI.grow {tk:Tk}{n₀ bm B:Nat}{w5 W W':World}{pre:List Nat}{row:Option Nat}(h:MgI tk n₀ bm w5 pre W)(hg:W.grownBy W' row)(hr: ∀r,row=some r→B≤r∧ ∃o:Obj,W.heap[r]?=some o∧o.isCells=false)(hB:n₀≤B)(hb:bm < B)(hs:n₀≤W.heap.size):MgI tk n₀ bm w5 pre W':=
 ⟨h.k.trans (KpM.of_grown hg hr hB hs),h.m.move (hg.block _ h.m.lt fun e=>by have:=(hr _ e.symm).1;omega)⟩
theorem Zbt (base:Nat)(tk:Tk)(v:Value)(A1:Option Addr)(n1 c1:Nat)(A2:Option Addr)(n2 c2:Nat)(A3:Option Addr)(n3 c3:Nat)(A4:Option Addr)(n4 c4:Nat)(F:Option Addr)(nf cf:Nat)(X:Option Addr)(nx cx:Nat)(V:Option Addr)(nv cv:Nat)(O:Option Addr)(no co:Nat)(AC:Option Addr)(nC cC:Nat)(AD:Option Addr)(nD cD:Nat)(cl dl L:List Nat)(w:World)
  (hO:w.ownsRow base 3 1 (.slice O no co) no (L.flatMap en3)) (hC:Rd nmI w w.heap.size AC nC cC cl) (hCo: ∀b o,AC=some ⟨b,o,none⟩→ ¬(Value.slice O no co).ownBlock=some b)
  (hD:Rd nmI w w.heap.size AD nD cD dl) (hDo: ∀b o,AD=some ⟨b,o,none⟩→ ¬(Value.slice O no co).ownBlock=some b) (hcl: ∀x∈cl,x < L.length) (hdb: ∀x∈dl,x≤1000000) (hnC:nC≤400) (hnD:nD≤400) (hL:L.length≤400)
  (htk: ∀x,x∈cl∨x∈dl→(tk x).1 < 18446744073709551616∧(tk x).2.size≤maxLen)
  (hof: ∀W,Kept (fun b=>(Value.slice O no co).ownBlock=some b) w W→ ∀x,x∈cl∨x∈dl→Calls Tryz.prog 88 #[tdV v A1 n1 c1 A2 n2 c2 A3 n3 c3 A4 n4 c4 F nf cf X nx cx V nv cv O no co,.int .i64 (x:Int)] W fun e w'=>e= .returned (enT (tk x))∧Below W.heap.size W w'):
  CallsIn Fence.wide 6 Tryz.prog 87 #[tdV v A1 n1 c1 A2 n2 c2 A3 n3 c3 A4 n4 c4 F nf cf X nx cx V nv cv O no co,.slice AC nC cC,.slice AD nD cD,.func (.func 88) #[tdV v A1 n1 c1 A2 n2 c2 A3 n3 c3 A4 n4 c4 F nf cf X nx cx V nv cv O no co] #[]] w fun e w'=> ∃A N c,e= .returned (.slice A N c)∧w'.ownsRow w.heap.size 3 1 (.slice A N c) N ((otL tk dl cl).flatMap en3)∧
   w'.ownsRow base 3 1 (.slice O no co) no ((stA tk dl L cl).flatMap en3)∧Kept (fun b=>(Value.slice O no co).ownBlock=some b) w w':=by
 obtain⟨bC,oC,hsC⟩:=Shows.of hC hCo
 obtain⟨bD,oD,hsD⟩:=Shows.of hD hDo
 have HOF:=Hd hof
 have HTK:=Hd htk
 have HCL:=Hd hcl
 have HDB:=Hd hdb
 have HNC:=Hd hnC
 have HND:=Hd hnD
 have HL:=Hd hL
 have HSC:=Hd hsC
 have HSD:=Hd hsD
 have HO:=Hd hO
 have hmm:= @run_makeMap Tryz.prog
 have hcD:=Nat.le_trans hC.cap hC.top
 have hown:=fun q e=>(hO.lt q e).2
 have HGO:=Hd hown
 obtain⟨D,hD'⟩: ∃D:Nat→Prop,(fun b=>(Value.slice O no co).ownBlock=some b)=D:=⟨_,rfl⟩
 rw[hD'] at HOF HSC HSD ⊢
 have HDD:Hid (∀b,D b↔(Value.slice O no co).ownBlock=some b):=Hd fun b=>by rw[← hD']
 clear hO hC hCo hD hDo hcl hdb hnC hnD hL htk hof hsC hsD hD' hown
 unfold tdV at HOF ⊢
 refine callsIn_of_wp_marks Tryz.func87 rfl trivial ?_ rfl
 simp only[Tryz.ntmps87,List.size_toArray,List.length_cons,List.length_nil,Nat.reduceAdd,Nat.reduceSub,Array.replicate_succ,Array.replicate_zero,List.push_toArray,List.append_toArray,List.nil_append,List.cons_append]
 gi_wp2_with fail
 obtain⟨w4,hw4⟩: ∃w4,(((w.alloc (.cells #[v,.slice A1 n1 c1,.slice A2 n2 c2,.slice A3 n3 c3,.slice A4 n4 c4,.slice F nf cf,.slice X nx cx,.slice V nv cv,.slice O no co] 108)).alloc (.cells #[.func (.func 88) #[.agg #[v,.slice A1 n1 c1,.slice A2 n2 c2,.slice A3 n3 c3,.slice A4 n4 c4,.slice F nf cf,.slice X nx cx,.slice V nv cv,.slice O no co]] #[]] 165)).alloc (.map #[] 0)).alloc (.cells #[.map (some (w.heap.size+1+1))] 205)=w4:=⟨_,rfl⟩
 have hfacts:w4.heap.size=w.heap.size+4∧w4.heap[w.heap.size]?=some (.cells #[v,.slice A1 n1 c1,.slice A2 n2 c2,.slice A3 n3 c3,.slice A4 n4 c4,.slice F nf cf,.slice X nx cx,.slice V nv cv,.slice O no co] 108 (0,0))∧w4.heap[w.heap.size+1]?=some (.cells #[.func (.func 88) #[.agg #[v,.slice A1 n1 c1,.slice A2 n2 c2,.slice A3 n3 c3,.slice A4 n4 c4,.slice F nf cf,.slice X nx cx,.slice V nv cv,.slice O no co]] #[]] 165 (0,0))∧ZV enT 210 3 .i64 w4 (w.heap.size+1+1) 0 (fun _=>none)∧w4.heap[w.heap.size+1+1+1]?=some (.cells #[.map (some (w.heap.size+1+1))] 205 (0,0))∧Below w.heap.size w w4:=by(
 obtain⟨x,hx⟩: ∃x,w.alloc (.cells #[v,.slice A1 n1 c1,.slice A2 n2 c2,.slice A3 n3 c3,.slice A4 n4 c4,.slice F nf cf,.slice X nx cx,.slice V nv cv,.slice O no co] 108)=x:=⟨_,rfl⟩
 obtain⟨y,hy⟩: ∃y,x.alloc (.cells #[.func (.func 88) #[.agg #[v,.slice A1 n1 c1,.slice A2 n2 c2,.slice A3 n3 c3,.slice A4 n4 c4,.slice F nf cf,.slice X nx cx,.slice V nv cv,.slice O no co]] #[]] 165)=y:=⟨_,rfl⟩
 obtain⟨u,hu⟩: ∃u,y.alloc (.map #[] 0)=u:=⟨_,rfl⟩
 rw[hx,hy,hu] at hw4
 have sx:x.heap.size=w.heap.size+1:=by rw[← hx,World.size_alloc]
 have sy:y.heap.size=w.heap.size+1+1:=by rw[← hy,World.size_alloc,sx]
 have su:u.heap.size=w.heap.size+1+1+1:=by rw[← hu,World.size_alloc,sy]
 have b0:Below w.heap.size w x:=hx▸bA
 have b1:Below x.heap.size x y:=hy▸bA
 have b2:Below y.heap.size y u:=hu▸bA
 have b3:Below u.heap.size u w4:=hw4▸bA
 have k0:x.heap[w.heap.size]?=some (.cells #[v,.slice A1 n1 c1,.slice A2 n2 c2,.slice A3 n3 c3,.slice A4 n4 c4,.slice F nf cf,.slice X nx cx,.slice V nv cv,.slice O no co] 108 (0,0)):=hx▸heap_alloc_new w _
 have k1:y.heap[w.heap.size+1]?=some (.cells #[.func (.func 88) #[.agg #[v,.slice A1 n1 c1,.slice A2 n2 c2,.slice A3 n3 c3,.slice A4 n4 c4,.slice F nf cf,.slice X nx cx,.slice V nv cv,.slice O no co]] #[]] 165 (0,0)):=by rw[← sx, ← hy];exact heap_alloc_new x _
 have k2:ZV enT 210 3 .i64 u (w.heap.size+1+1) 0 (fun _=>none):=by rw[← sy, ← hu];exact ZV.made y
 have k3:w4.heap[w.heap.size+1+1+1]?=some (.cells #[.map (some (w.heap.size+1+1))] 205 (0,0)):=by rw[← su, ← hw4];exact heap_alloc_new u _
 refine⟨by rw[← hw4,World.size_alloc,su],?_,?_,k2.below b3,k3,?_⟩
 ·exact(b3.block _ (by omega)).trans ((b2.block _ (by omega)).trans ((b1.block _ (by omega)).trans k0))
 ·exact(b3.block _ (by omega)).trans ((b2.block _ (by omega)).trans k1)
 ·exact b0.trans ((b1.trans ((b2.trans (b3.mono b2.size)).mono b1.size)).mono b0.size))
 obtain⟨s4,k0,k1,k2,k3,b4⟩:=hfacts
 obtain⟨bo,hbo⟩: ∃b,w.heap.size+1=b:=⟨_,rfl⟩
 obtain⟨bm,hbm⟩: ∃b,bo+1=b:=⟨_,rfl⟩
 obtain⟨bx,hbx⟩: ∃b,bm+1=b:=⟨_,rfl⟩
 simp only[hbo,hbm,hbx] at k1 k2 k3 hw4 ⊢
 generalize hwd:World.alloc (World.alloc (World.alloc (World.alloc _ _) _) _) _=wd'
 obtain rfl:w4=wd':=hw4.symm.trans hwd
 clear hwd
 refine⟨trivial,(Zjg _ AD nD cD _).mono ?_⟩
 rintro e w5 ⟨rfl,rfl⟩
 have hal:Below w4.heap.size w4 (w4.alloc (.cells #[.slice AD nD cD] 82)):=bA
 have s5:(w4.alloc (.cells #[.slice AD nD cD] 82)).heap.size=w4.heap.size+1:=World.size_alloc _ _
 have k4:=heap_alloc_new w4 (.cells #[.slice AD nD cD] 82)
 replace k0:=(hal.block _ (Zh k0)).trans k0
 replace k1:=(hal.block _ (Zh k1)).trans k1
 replace k3:=(hal.block _ (Zh k3)).trans k3
 replace k2:=k2.below hal
 replace b4:=b4.trans (hal.mono b4.size)
 clear hal
 gi_wp2_with fail
 clear hw4 hmm
 generalize w4.alloc (.cells #[.slice AD nD cD] 82)=w5 at*
 rw[s4] at k4
 have HK0:=Hd k0
 have HK1:=Hd k1
 have HK3:=Hd k3
 have HB4:=Hd b4
 have HS5:Hid (w5.heap.size=w.heap.size+5∧bo=w.heap.size+1∧bm=w.heap.size+2∧bx=w.heap.size+3):=Hd (by omega)
 have hmx:Tryz.prog.follows .mixedOrders=true:=by kernel_rfl
 have h0:MgI tk w.heap.size bm w5 [] w5:=⟨KpM.refl _ _,k2⟩
 have hks:Kept D w w5:=Kept.of_below b4
 have hseq:=Zbo (6 - 1) (w.heap.size+4) w.heap.size bD oD nD cD dl HSD.out.1 w5 (by have:=HND.out;omega) AD HSD.out.2.1 ((Zb (i:=0) k4).trans rfl) (HSD.out.2.2 w5 hks)
 have HN0:Hid (w.heap.size≤w5.heap.size):=Hd b4.size
 clear k0 k1 k2 k3 k4 b4 s4 s5 hbo hbm hbx
 refine Zbn (gf:=155) (lb:= #[.pointer (some ⟨w.heap.size+4,0,none⟩)]) rfl (enters_of Tryz.func155 (by kernel_rfl) rfl) hseq
  KpM.trans (fun W l' o o' h1 h2 h3=>KpM.put HN0.out W l' o o' h1 h2 h3) (fun {A B} h=>by cases h;exact KeepsFrom.refl _ _) (fun _=>rfl)
  (fun pre W=>MgI tk w.heap.size bm w5 (pre.map fun x=>dl[x.val]) W)
  (fun pre W W' row hs hg hrow=>hs.grow hg hrow HN0.out (by have:=HS5.out;omega) (Nat.le_trans HN0.out hs.k.bel.size))
  (fun pre W W' hs hst=>by cases hst;exact hs)
  h0 ?a1 ?assign ?body ?done
 case assign=>(
 intro yl x W K hK
 unfold bwA
 gi_wp2
 exact hK)
 case body=>(
 rintro yl pre x W hI hlen
 have hbm:dl[x.val]∈dl:=List.getElem_mem _
 have HMAP:Hid ((pre++ [x]).map (fun x:Fin dl.length=>dl[x.val])=pre.map (fun x=>dl[x.val])++ [dl[x.val]]):=Hd (by simp)
 have hl9:(pre.map (fun x:Fin dl.length=>dl[x.val])).length≤400:=by(
 rw[List.length_map]
 have h1:=HND.out
 have h2:=HSD.out.1
 simp[bwY] at hlen
 omega)
 generalize pre.map (fun x:Fin dl.length=>dl[x.val])=ps at*
 show Code.wpIn _ _ _ _ _ _ W
 generalize dl[x.val]=bv at*
 have HBV:=Hd hbm
 have HI:=Hd hI
 have kx:=hI.k.cell ((Zb (i:=0) HK3.out).trans rfl)
 have ko:=hI.k.cell ((Zb (i:=0) HK1.out).trans rfl)
 have HKX:=Hd kx
 have HKO:=Hd ko
 clear hbm hI hlen hseq h0 hks
 gi_wp2
 refine Zu (VU _ _) [0,1,2,4,3,5] [3,5] 5 (fun w'=>w'.cell? ⟨bx,0,none⟩=some (.map (some bm))∧w'.cell? ⟨bo,0,none⟩=some (.func (.func 88) #[.agg #[v,.slice A1 n1 c1,.slice A2 n2 c2,.slice A3 n3 c3,.slice A4 n4 c4,.slice F nf cf,.slice X nx cx,.slice V nv cv,.slice O no co]] #[])) hmx (by kernel_rfl) (by kernel_rfl) (by kernel_rfl) (by kernel_rfl) ⟨kx,ko⟩ ?_
 simp only[steps,sE,sD]
 clear kx ko
 repeat((first|refine Zf rfl ?_|(refine Zd (v:= ?_) rfl rfl ?_ ?_;rotate_left;(focus(rintro w' ⟨x0,x1⟩;go_simp;try with_reducible rfl))));simp only[Act.put,sA,sB,sC])
 have HNW:Hid (w.heap.size≤W.heap.size):=Hd (Nat.le_trans HN0.out HI.out.k.bel.size)
 have HID:=Hd (HI.out.behind ((Below.refl W.heap.size W).drew) HNW.out)
 have HWD:=Hd ((Below.refl W.heap.size W).drew)
 generalize World.drew _=wd at*
 refine Ze rfl rfl (fun K hK=> ?_)
 go_simp
 refine(HOF.out wd (Kept.of_below (HB4.out.trans HID.out.k.bel)) bv (.inr HBV.out)).mono ?_
 rintro e w6 ⟨rfl,hv⟩
 have HI6:=Hd (HID.out.behind hv (Nat.le_trans HNW.out HWD.out.size))
 have HW6:=Hd (HWD.out.trans (hv.mono HWD.out.size))
 refine hK.out _ _ (fun _=>⟨HI6.out.k.cell ((Zb (i:=0) HK3.out).trans rfl),HI6.out.k.cell ((Zb (i:=0) HK1.out).trans rfl)⟩) ?_
 clear hK K hv HID HWD
 try simp only[Act.put,sA,sB,sC]
 have hkey:=keyT (x:=tk bv) (HTK.out bv (.inr HBV.out)).1 (HTK.out bv (.inr HBV.out)).2
 have hwf:(Lit.int .i64 (bv:Int)).wf=true:=wf_i64 (HDB.out bv HBV.out)
 refine Ze rfl rfl (fun K hK=> ?_)
 refine Zje (.tmp 21) (.tmp 24) (.tmp 25) 205 rfl lawT Tryz.underlying205 Tryz.underlying3 Zf7 HI6.out.m rfl (tk bv) rfl hkey bv rfl hwf (by unfold maxLen;omega) ?_
 intro w7 hm7 hg7
 have HM7:=Hd hm7
 have HKP:=Hd (KpM.map (n₀:=w.heap.size) HI6.out.m hg7 (by have:=HS5.out;omega) (Nat.le_trans HNW.out HW6.out.size))
 have HKF:Hid (KeepsFrom w5.heap.size W w7):=Hd ((KeepsFrom.of_grownBy (B:=w5.heap.size) (row:=none) ⟨HW6.out.os,HW6.out.tape,HW6.out.output,HW6.out.size,fun k hk _=>HW6.out.block k hk⟩ (fun j e=>by cases e)).trans (KeepsFrom.of_grownBy hg7 fun j e=>by cases e;have:=HS5.out;omega))
 refine hK.out _ _ (fun h=>absurd rfl h) ?_
 clear hK K hm7 hg7 hkey hwf
 try simp only[Act.put]
 refine Vf ?_
 refine⟨HKF.out,(KpM.behind HW6.out HNW.out).trans HKP.out,?_⟩
 show MgI tk w.heap.size bm w5 ((pre++ [x]).map fun x=>dl[x.val]) w7
 rw[HMAP.out]
 exact⟨HI6.out.k.trans HKP.out,by rw[List.length_append,List.length_singleton,Zat];exact HM7.out⟩)
 case done=>(
 rintro Dd W2 hDd hI hKD
 replace hI:MgI tk w.heap.size bm w5 dl.reverse W2:=by(
 have h:MgI tk w.heap.size bm w5 ((bwY dl.length).map fun x=>dl[x.val]) W2:=hI
 rw[Zc8] at h
 exact h)
 have hb2:Below w.heap.size w W2:=HB4.out.trans hI.k.bel
 have HGO2:Hid (∀q,(Value.slice O no co).ownBlock=some q→q < W2.heap.size):=Hd fun q hq=>Nat.lt_of_lt_of_le (HGO.out q hq) hb2.size
 have HKW2:Hid (Kept D w W2):=Hd (Kept.of_below hb2)
 have HND2:Hid (∀q,w.heap.size≤q→ ¬D q):=Hd fun q hq hd=>by have:=HGO.out q ((HDD.out q).1 hd);omega
 have HMAP:Hid (ZV enT 210 3 .i64 W2 bm dl.reverse.length (fun key=>dl.find? fun b=>decide (tk b=key))):=Hd (by rw[← Zgf];exact hI.m)
 have HC0:=Hd (hI.k.keep _ _ _ _ HK0.out)
 have HC1:=Hd (hI.k.keep _ _ _ _ HK1.out)
 have HC3:=Hd (hI.k.keep _ _ _ _ HK3.out)
 have HO2:=Hd (Zv HO.out fun q hq=>hb2.block q (HGO.out q hq))
 have HB2:=Hd hb2
 have HDD2:=Hd hDd
 have HKD:=Hd hKD
 have HSB:Hid (bm < W2.heap.size∧bo < W2.heap.size∧bx < W2.heap.size∧w.heap.size < W2.heap.size∧w.heap.size≤bm∧w.heap.size≤bo∧w.heap.size≤bx):=Hd (by have:=HS5.out;have:=hI.k.bel.size;omega)
 have HLL:Hid (L.length=no):=Hd (Zl Zz (by decide) HO.out)
 clear hI hb2 hKD hseq h0 hks hDd
 gi_wp2_with fail
 gi_loopw [8,28] (fun v8 v28 wr=> ∃(k:Nat) (A:Option Addr) (N c:Nat),v8= .slice A N c∧v28= .int .i64 (k:Int)∧k≤nC∧Mg2 D tk dl L cl base O no co W2 k A N c wr) (fun _ v28 _=>nC - (intOf v28).toNat)
 case atStart=>exact⟨0,none,0,0,rfl,rfl,Nat.zero_le _,World.ownsRow_nil _ _ _ _,HO2.out,Kept.refl _ _⟩
 case round=>(
 obtain⟨k,A,N,c,rfl,rfl,hk,hM⟩:=hrel
 have HM:=Hd hM
 by_cases hlt:k < nC
 ·(
 have hkl:k < cl.length:=by have:=HSC.out.1;omega
 obtain rfl:AC=some ⟨bC,oC,none⟩:=HSC.out.2.1 (by omega)
 have HKL:=Hd hkl
 have HLT:=Hd hlt
 obtain⟨x,hx⟩: ∃x,cl[k]=x:=⟨_,rfl⟩
 have d0:wr.cell? ⟨bC,oC+k,none⟩=some (.int .i64 (x:Int)):=by rw[← hx];exact HSC.out.2.2 wr (HKW2.out.trans hM.k) k hkl
 have HXM:Hid (x∈cl):=Hd (by rw[← hx];exact List.getElem_mem hkl)
 have HX:=Hd hx
 have HXL:=Hd (HCL.out x HXM.out)
 have kx:=(Zb (i:=0) ((hM.k.block bx HSB.out.2.2.1 (HND2.out _ HSB.out.2.2.2.2.2.2)).trans HC3.out)).trans rfl
 have ko:=(Zb (i:=0) ((hM.k.block bo HSB.out.2.1 (HND2.out _ HSB.out.2.2.2.2.2.1)).trans HC1.out)).trans rfl
 have hin:(k:Int) < (nC:Int):=by omega
 have hk9:k≤60000:=by have:=HNC.out;omega
 clear hk hM hlt hkl hx
 gi_wp2_with fail
 clear d0
 refine Zu (VV _) [0,1,2,3,4,5,6,7,8,9] [3,4] 10 (fun w'=>w'.cell? ⟨bx,0,none⟩=some (.map (some bm))∧w'.cell? ⟨bo,0,none⟩=some (.func (.func 88) #[.agg #[v,.slice A1 n1 c1,.slice A2 n2 c2,.slice A3 n3 c3,.slice A4 n4 c4,.slice F nf cf,.slice X nx cx,.slice V nv cv,.slice O no co]] #[])) hmx (by kernel_rfl) (by kernel_rfl) (by kernel_rfl) (by kernel_rfl) ⟨kx,ko⟩ ?_
 simp only[steps,sE,sD]
 clear kx ko
 repeat((first|refine Zf rfl ?_|(refine Zd (v:= ?_) rfl rfl ?_ ?_;rotate_left;(focus(rintro w' ⟨x0,x1⟩;go_simp;try with_reducible rfl))));simp only[Act.put,sA,sB,sC])
 have HMd:=Hd (HM.out.behind ((Below.refl wr.heap.size wr).drew))
 clear HM
 generalize World.drew _=wd at*
 refine Ze rfl rfl (fun K hK=> ?_)
 go_simp
 refine(HOF.out wd (HKW2.out.trans HMd.out.k) x (.inl HXM.out)).mono ?_
 rintro e w6 ⟨rfl,hv⟩
 have HM6:=Hd (HMd.out.behind hv)
 have hm6:=HM6.out.k
 have hs6:w6.cell? ⟨bx,0,none⟩=some (.map (some bm))∧w6.cell? ⟨bo,0,none⟩=some (.func (.func 88) #[.agg #[v,.slice A1 n1 c1,.slice A2 n2 c2,.slice A3 n3 c3,.slice A4 n4 c4,.slice F nf cf,.slice X nx cx,.slice V nv cv,.slice O no co]] #[]):=⟨(Zb (i:=0) ((hm6.block bx HSB.out.2.2.1 (HND2.out _ HSB.out.2.2.2.2.2.2)).trans HC3.out)).trans rfl,(Zb (i:=0) ((hm6.block bo HSB.out.2.1 (HND2.out _ HSB.out.2.2.2.2.2.1)).trans HC1.out)).trans rfl⟩
 have HS6:=Hd hs6
 have hmap6:=HMAP.out.move (hm6.block bm HSB.out.1 (HND2.out _ HSB.out.2.2.2.2.1))
 have k8:w6.cell? ⟨w.heap.size,8,none⟩=some (.slice O no co):=(Zb (i:=8) ((hm6.block w.heap.size HSB.out.2.2.2.1 (HND2.out _ lR)).trans HC0.out)).trans rfl
 refine hK.out _ _ (fun _=>hs6) ?_
 clear hK K hv HMd hs6 hm6
 try simp only[Act.put,sA,sB,sC]
 have hkey:=keyT (x:=tk x) (HTK.out x (.inl HXM.out)).1 (HTK.out x (.inl HXM.out)).2
 obtain⟨mg,hmg⟩: ∃m,mgL tk dl x=m:=⟨_,rfl⟩
 have HMG:=Hd hmg
 have hmg':(dl.find? fun b=>decide (tk b=tk x))=mg:=hmg
 refine Ze rfl rfl (fun K hK=> ?_)
 refine RG (.tmp 33) (.tmp 36) 205 rfl lawT Tryz.underlying205 Tryz.underlying3 zero3 hmap6 rfl (tk x) rfl hkey (mg.getD 0) (by rw[hmg']) mg.isSome (by rw[hmg']) ?_
 refine hK.out _ _ (fun _=>HS6.out) ?_
 clear hK K hkey hmg hmg' hmap6
 try simp only[Act.put,sA,sB,sC]
 cases mg with
 |some b=>(
 simp only[Option.getD_some,Option.isSome_some]
 repeat((first|refine Zf rfl ?_|(refine Zd (v:= ?_) rfl rfl ?_ ?_;rotate_left;(focus(rintro w' ⟨x0,x1⟩;go_simp;try with_reducible rfl))));simp only[Act.put,sA,sB,sC])
 refine Vf ?_
 have HXK:=HX.out
 subst HXK
 obtain⟨g,rfl,⟨u,hu⟩,hfz,hset⟩:=HM6.out.set HGO2.out HDD.out HKL.out HMG.out HXL.out
 have HSET:=Hd hset
 have hxn:((cl[k]'HKL.out:Nat):Int) < (no:Int):=by have:=HXL.out;have:=HLL.out;omega
 have hx9:(cl[k]'HKL.out)≤60000:=by have:=HXL.out;have:=HL.out;omega
 clear HM6 hset HX HXM HXL
 generalize cl[k]'HKL.out=x at*
 gi_wp2_with fail
 go_roundw
 case rel=>exact⟨k+1,A,N,c,rfl,by go_num,HLT.out,HSET.out⟩
 case measure=>(
 have:=HLT.out
 simp[intOf]
 omega))
 |none=>(
 simp only[Option.getD_none,Option.isSome_none]
 repeat((first|refine Zf rfl ?_|(refine Zd (v:= ?_) rfl rfl ?_ ?_;rotate_left;(focus(rintro w' ⟨x0,x1⟩;go_simp;try with_reducible rfl))));simp only[Act.put,sA,sB,sC])
 refine Vf ?_
 clear k8
 have HO:=Hd (ZiH w6 x)
 have HAL:=Hd (show Below w6.heap.size w6 (w6.alloc (.cells #[.int .i64 (x:Int)] 3)) from bA)
 have HM7:=Hd (HM6.out.behind HAL.out)
 have hsz:=HM7.out.k.size
 have hN1:N+1≤100000:=by(
 have h1:=Zl Zz (by decide) HM7.out.o
 have h2:=Zjf tk dl cl k
 have h3:=HNC.out
 have h4:=HSC.out.1
 omega)
 gi_wp2_with (gi_at_builtin;refine V3 (VV _) rfl (.tmp 46) (.tmp 48) rfl W2.heap.size _ N _ rfl HM7.out.o _ _ 1 1 [x] rfl HO.out hN1 hsz ?_;intro A' k' c' w' HK HA)
 go_roundw
 case rel=>exact⟨k+1,A',k',c',rfl,by go_num,HLT.out,by
  have e:=HX.out
  subst e
  exact HM7.out.add HGO2.out HKL.out HMG.out HA.out⟩
 case measure=>(
 have:=HLT.out
 simp[intOf]
 omega)))
 ·(
 obtain rfl:k=nC:=by omega
 have e1:cl.take k=cl:=List.take_of_length_le (by have:=HSC.out.1;omega)
 obtain⟨ho,hl,hkk⟩:=hM
 rw[e1] at ho hl
 have hkd:wr.heap[Dd]?=some (.deferred (some [])):=(hkk.block Dd (Zh HKD.out) (HND2.out _ (Nat.le_trans HN0.out HDD2.out))).trans HKD.out
 have HP:Hid (∀o',(wr.putObj Dd o').ownsRow w.heap.size 3 1 (.slice A N c) N ((otL tk dl cl).flatMap en3)∧(wr.putObj Dd o').ownsRow base 3 1 (.slice O no co) no ((stA tk dl L cl).flatMap en3)∧Kept D w (wr.putObj Dd o')):=Hd fun o'=>by(
 have hDl:Dd < W2.heap.size:=Zh HKD.out
 refine⟨Va (Zv ho fun q hq=>World.putObj_heap_other (by have:=(ho.lt q hq).1;omega)) HB2.out.size,Zv hl fun q hq=>World.putObj_heap_other (by have:=HGO.out q hq;have:=HDD2.out;have:=HN0.out;omega),?_⟩
 have hg:wr.grownBy (wr.putObj Dd o') (some Dd):=grownBy_putObj' wr Dd o'
 have h1:=HKW2.out.trans hkk
 exact⟨hg.os.trans h1.os,hg.tape.trans h1.tape,hg.output.trans h1.output,Nat.le_trans h1.size hg.size,fun b hb hn=>(hg.block b (Nat.lt_of_lt_of_le hb h1.size) fun e=>by injection e with e;have:=HDD2.out;have:=HN0.out;omega).trans (h1.block b hb hn)⟩)
 clear hlt hk ho hl hkk HM
 gi_wp2
 refine⟨by simp,.inl ⟨_,_,rfl,run_takeDeferred hkd,?_⟩⟩
 exact⟨_,by simp[results,Tryz.f87,go_sem],A,N,c,rfl,HP.out _⟩)))
theorem Zbu (base:Nat)(tk:Tk)(v:Value)(A1:Option Addr)(n1 c1:Nat)(A2:Option Addr)(n2 c2:Nat)(A3:Option Addr)(n3 c3:Nat)(A4:Option Addr)(n4 c4:Nat)(F:Option Addr)(nf cf:Nat)(X:Option Addr)(nx cx:Nat)(V:Option Addr)(nv cv:Nat)(O:Option Addr)(no co:Nat)(AC:Option Addr)(nC cC:Nat)(AD:Option Addr)(nD cD:Nat)(cl dl L:List Nat)(w:World)
  (hO:w.ownsRow base 3 1 (.slice O no co) no (L.flatMap en3)) (hC:Rd nmI w w.heap.size AC nC cC cl) (hCo: ∀b o,AC=some ⟨b,o,none⟩→ ¬(Value.slice O no co).ownBlock=some b)
  (hD:Rd nmI w w.heap.size AD nD cD dl) (hDo: ∀b o,AD=some ⟨b,o,none⟩→ ¬(Value.slice O no co).ownBlock=some b) (hcl: ∀x∈cl,x < L.length) (hdb: ∀x∈dl,x≤1000000) (hnC:nC≤400) (hnD:nD≤400) (hL:L.length≤400)
  (htk: ∀x,x∈cl∨x∈dl→(tk x).1 < 18446744073709551616∧(tk x).2.size≤maxLen)
  (hof: ∀W,Kept (fun b=>(Value.slice O no co).ownBlock=some b) w W→ ∀x,x∈cl∨x∈dl→Calls Tryz.prog 89 #[tdV v A1 n1 c1 A2 n2 c2 A3 n3 c3 A4 n4 c4 F nf cf X nx cx V nv cv O no co,.int .i64 (x:Int)] W fun e w'=>e= .returned (enT (tk x))∧Below W.heap.size W w'):
  CallsIn Fence.wide 6 Tryz.prog 87 #[tdV v A1 n1 c1 A2 n2 c2 A3 n3 c3 A4 n4 c4 F nf cf X nx cx V nv cv O no co,.slice AC nC cC,.slice AD nD cD,.func (.func 89) #[tdV v A1 n1 c1 A2 n2 c2 A3 n3 c3 A4 n4 c4 F nf cf X nx cx V nv cv O no co] #[]] w fun e w'=> ∃A N c,e= .returned (.slice A N c)∧w'.ownsRow w.heap.size 3 1 (.slice A N c) N ((otL tk dl cl).flatMap en3)∧
   w'.ownsRow base 3 1 (.slice O no co) no ((stA tk dl L cl).flatMap en3)∧Kept (fun b=>(Value.slice O no co).ownBlock=some b) w w':=by
 obtain⟨bC,oC,hsC⟩:=Shows.of hC hCo
 obtain⟨bD,oD,hsD⟩:=Shows.of hD hDo
 have HOF:=Hd hof
 have HTK:=Hd htk
 have HCL:=Hd hcl
 have HDB:=Hd hdb
 have HNC:=Hd hnC
 have HND:=Hd hnD
 have HL:=Hd hL
 have HSC:=Hd hsC
 have HSD:=Hd hsD
 have HO:=Hd hO
 have hmm:= @run_makeMap Tryz.prog
 have hcD:=Nat.le_trans hC.cap hC.top
 have hown:=fun q e=>(hO.lt q e).2
 have HGO:=Hd hown
 obtain⟨D,hD'⟩: ∃D:Nat→Prop,(fun b=>(Value.slice O no co).ownBlock=some b)=D:=⟨_,rfl⟩
 rw[hD'] at HOF HSC HSD ⊢
 have HDD:Hid (∀b,D b↔(Value.slice O no co).ownBlock=some b):=Hd fun b=>by rw[← hD']
 clear hO hC hCo hD hDo hcl hdb hnC hnD hL htk hof hsC hsD hD' hown
 unfold tdV at HOF ⊢
 refine callsIn_of_wp_marks Tryz.func87 rfl trivial ?_ rfl
 simp only[Tryz.ntmps87,List.size_toArray,List.length_cons,List.length_nil,Nat.reduceAdd,Nat.reduceSub,Array.replicate_succ,Array.replicate_zero,List.push_toArray,List.append_toArray,List.nil_append,List.cons_append]
 gi_wp2_with fail
 obtain⟨w4,hw4⟩: ∃w4,(((w.alloc (.cells #[v,.slice A1 n1 c1,.slice A2 n2 c2,.slice A3 n3 c3,.slice A4 n4 c4,.slice F nf cf,.slice X nx cx,.slice V nv cv,.slice O no co] 108)).alloc (.cells #[.func (.func 89) #[.agg #[v,.slice A1 n1 c1,.slice A2 n2 c2,.slice A3 n3 c3,.slice A4 n4 c4,.slice F nf cf,.slice X nx cx,.slice V nv cv,.slice O no co]] #[]] 165)).alloc (.map #[] 0)).alloc (.cells #[.map (some (w.heap.size+1+1))] 205)=w4:=⟨_,rfl⟩
 have hfacts:w4.heap.size=w.heap.size+4∧w4.heap[w.heap.size]?=some (.cells #[v,.slice A1 n1 c1,.slice A2 n2 c2,.slice A3 n3 c3,.slice A4 n4 c4,.slice F nf cf,.slice X nx cx,.slice V nv cv,.slice O no co] 108 (0,0))∧w4.heap[w.heap.size+1]?=some (.cells #[.func (.func 89) #[.agg #[v,.slice A1 n1 c1,.slice A2 n2 c2,.slice A3 n3 c3,.slice A4 n4 c4,.slice F nf cf,.slice X nx cx,.slice V nv cv,.slice O no co]] #[]] 165 (0,0))∧ZV enT 210 3 .i64 w4 (w.heap.size+1+1) 0 (fun _=>none)∧w4.heap[w.heap.size+1+1+1]?=some (.cells #[.map (some (w.heap.size+1+1))] 205 (0,0))∧Below w.heap.size w w4:=by(
 obtain⟨x,hx⟩: ∃x,w.alloc (.cells #[v,.slice A1 n1 c1,.slice A2 n2 c2,.slice A3 n3 c3,.slice A4 n4 c4,.slice F nf cf,.slice X nx cx,.slice V nv cv,.slice O no co] 108)=x:=⟨_,rfl⟩
 obtain⟨y,hy⟩: ∃y,x.alloc (.cells #[.func (.func 89) #[.agg #[v,.slice A1 n1 c1,.slice A2 n2 c2,.slice A3 n3 c3,.slice A4 n4 c4,.slice F nf cf,.slice X nx cx,.slice V nv cv,.slice O no co]] #[]] 165)=y:=⟨_,rfl⟩
 obtain⟨u,hu⟩: ∃u,y.alloc (.map #[] 0)=u:=⟨_,rfl⟩
 rw[hx,hy,hu] at hw4
 have sx:x.heap.size=w.heap.size+1:=by rw[← hx,World.size_alloc]
 have sy:y.heap.size=w.heap.size+1+1:=by rw[← hy,World.size_alloc,sx]
 have su:u.heap.size=w.heap.size+1+1+1:=by rw[← hu,World.size_alloc,sy]
 have b0:Below w.heap.size w x:=hx▸bA
 have b1:Below x.heap.size x y:=hy▸bA
 have b2:Below y.heap.size y u:=hu▸bA
 have b3:Below u.heap.size u w4:=hw4▸bA
 have k0:x.heap[w.heap.size]?=some (.cells #[v,.slice A1 n1 c1,.slice A2 n2 c2,.slice A3 n3 c3,.slice A4 n4 c4,.slice F nf cf,.slice X nx cx,.slice V nv cv,.slice O no co] 108 (0,0)):=hx▸heap_alloc_new w _
 have k1:y.heap[w.heap.size+1]?=some (.cells #[.func (.func 89) #[.agg #[v,.slice A1 n1 c1,.slice A2 n2 c2,.slice A3 n3 c3,.slice A4 n4 c4,.slice F nf cf,.slice X nx cx,.slice V nv cv,.slice O no co]] #[]] 165 (0,0)):=by rw[← sx, ← hy];exact heap_alloc_new x _
 have k2:ZV enT 210 3 .i64 u (w.heap.size+1+1) 0 (fun _=>none):=by rw[← sy, ← hu];exact ZV.made y
 have k3:w4.heap[w.heap.size+1+1+1]?=some (.cells #[.map (some (w.heap.size+1+1))] 205 (0,0)):=by rw[← su, ← hw4];exact heap_alloc_new u _
 refine⟨by rw[← hw4,World.size_alloc,su],?_,?_,k2.below b3,k3,?_⟩
 ·exact(b3.block _ (by omega)).trans ((b2.block _ (by omega)).trans ((b1.block _ (by omega)).trans k0))
 ·exact(b3.block _ (by omega)).trans ((b2.block _ (by omega)).trans k1)
 ·exact b0.trans ((b1.trans ((b2.trans (b3.mono b2.size)).mono b1.size)).mono b0.size))
 obtain⟨s4,k0,k1,k2,k3,b4⟩:=hfacts
 obtain⟨bo,hbo⟩: ∃b,w.heap.size+1=b:=⟨_,rfl⟩
 obtain⟨bm,hbm⟩: ∃b,bo+1=b:=⟨_,rfl⟩
 obtain⟨bx,hbx⟩: ∃b,bm+1=b:=⟨_,rfl⟩
 simp only[hbo,hbm,hbx] at k1 k2 k3 hw4 ⊢
 generalize hwd:World.alloc (World.alloc (World.alloc (World.alloc _ _) _) _) _=wd'
 obtain rfl:w4=wd':=hw4.symm.trans hwd
 clear hwd
 refine⟨trivial,(Zjg _ AD nD cD _).mono ?_⟩
 rintro e w5 ⟨rfl,rfl⟩
 have hal:Below w4.heap.size w4 (w4.alloc (.cells #[.slice AD nD cD] 82)):=bA
 have s5:(w4.alloc (.cells #[.slice AD nD cD] 82)).heap.size=w4.heap.size+1:=World.size_alloc _ _
 have k4:=heap_alloc_new w4 (.cells #[.slice AD nD cD] 82)
 replace k0:=(hal.block _ (Zh k0)).trans k0
 replace k1:=(hal.block _ (Zh k1)).trans k1
 replace k3:=(hal.block _ (Zh k3)).trans k3
 replace k2:=k2.below hal
 replace b4:=b4.trans (hal.mono b4.size)
 clear hal
 gi_wp2_with fail
 clear hw4 hmm
 generalize w4.alloc (.cells #[.slice AD nD cD] 82)=w5 at*
 rw[s4] at k4
 have HK0:=Hd k0
 have HK1:=Hd k1
 have HK3:=Hd k3
 have HB4:=Hd b4
 have HS5:Hid (w5.heap.size=w.heap.size+5∧bo=w.heap.size+1∧bm=w.heap.size+2∧bx=w.heap.size+3):=Hd (by omega)
 have hmx:Tryz.prog.follows .mixedOrders=true:=by kernel_rfl
 have h0:MgI tk w.heap.size bm w5 [] w5:=⟨KpM.refl _ _,k2⟩
 have hks:Kept D w w5:=Kept.of_below b4
 have hseq:=Zbo (6 - 1) (w.heap.size+4) w.heap.size bD oD nD cD dl HSD.out.1 w5 (by have:=HND.out;omega) AD HSD.out.2.1 ((Zb (i:=0) k4).trans rfl) (HSD.out.2.2 w5 hks)
 have HN0:Hid (w.heap.size≤w5.heap.size):=Hd b4.size
 clear k0 k1 k2 k3 k4 b4 s4 s5 hbo hbm hbx
 refine Zbn (gf:=155) (lb:= #[.pointer (some ⟨w.heap.size+4,0,none⟩)]) rfl (enters_of Tryz.func155 (by kernel_rfl) rfl) hseq
  KpM.trans (fun W l' o o' h1 h2 h3=>KpM.put HN0.out W l' o o' h1 h2 h3) (fun {A B} h=>by cases h;exact KeepsFrom.refl _ _) (fun _=>rfl)
  (fun pre W=>MgI tk w.heap.size bm w5 (pre.map fun x=>dl[x.val]) W)
  (fun pre W W' row hs hg hrow=>hs.grow hg hrow HN0.out (by have:=HS5.out;omega) (Nat.le_trans HN0.out hs.k.bel.size))
  (fun pre W W' hs hst=>by cases hst;exact hs)
  h0 ?a1 ?assign ?body ?done
 case assign=>(
 intro yl x W K hK
 unfold bwA
 gi_wp2
 exact hK)
 case body=>(
 rintro yl pre x W hI hlen
 have hbm:dl[x.val]∈dl:=List.getElem_mem _
 have HMAP:Hid ((pre++ [x]).map (fun x:Fin dl.length=>dl[x.val])=pre.map (fun x=>dl[x.val])++ [dl[x.val]]):=Hd (by simp)
 have hl9:(pre.map (fun x:Fin dl.length=>dl[x.val])).length≤400:=by(
 rw[List.length_map]
 have h1:=HND.out
 have h2:=HSD.out.1
 simp[bwY] at hlen
 omega)
 generalize pre.map (fun x:Fin dl.length=>dl[x.val])=ps at*
 show Code.wpIn _ _ _ _ _ _ W
 generalize dl[x.val]=bv at*
 have HBV:=Hd hbm
 have HI:=Hd hI
 have kx:=hI.k.cell ((Zb (i:=0) HK3.out).trans rfl)
 have ko:=hI.k.cell ((Zb (i:=0) HK1.out).trans rfl)
 have HKX:=Hd kx
 have HKO:=Hd ko
 clear hbm hI hlen hseq h0 hks
 gi_wp2
 refine Zu (VU _ _) [0,1,2,4,3,5] [3,5] 5 (fun w'=>w'.cell? ⟨bx,0,none⟩=some (.map (some bm))∧w'.cell? ⟨bo,0,none⟩=some (.func (.func 89) #[.agg #[v,.slice A1 n1 c1,.slice A2 n2 c2,.slice A3 n3 c3,.slice A4 n4 c4,.slice F nf cf,.slice X nx cx,.slice V nv cv,.slice O no co]] #[])) hmx (by kernel_rfl) (by kernel_rfl) (by kernel_rfl) (by kernel_rfl) ⟨kx,ko⟩ ?_
 simp only[steps,sE,sD]
 clear kx ko
 repeat((first|refine Zf rfl ?_|(refine Zd (v:= ?_) rfl rfl ?_ ?_;rotate_left;(focus(rintro w' ⟨x0,x1⟩;go_simp;try with_reducible rfl))));simp only[Act.put,sA,sB,sC])
 have HNW:Hid (w.heap.size≤W.heap.size):=Hd (Nat.le_trans HN0.out HI.out.k.bel.size)
 have HID:=Hd (HI.out.behind ((Below.refl W.heap.size W).drew) HNW.out)
 have HWD:=Hd ((Below.refl W.heap.size W).drew)
 generalize World.drew _=wd at*
 refine Ze rfl rfl (fun K hK=> ?_)
 go_simp
 refine(HOF.out wd (Kept.of_below (HB4.out.trans HID.out.k.bel)) bv (.inr HBV.out)).mono ?_
 rintro e w6 ⟨rfl,hv⟩
 have HI6:=Hd (HID.out.behind hv (Nat.le_trans HNW.out HWD.out.size))
 have HW6:=Hd (HWD.out.trans (hv.mono HWD.out.size))
 refine hK.out _ _ (fun _=>⟨HI6.out.k.cell ((Zb (i:=0) HK3.out).trans rfl),HI6.out.k.cell ((Zb (i:=0) HK1.out).trans rfl)⟩) ?_
 clear hK K hv HID HWD
 try simp only[Act.put,sA,sB,sC]
 have hkey:=keyT (x:=tk bv) (HTK.out bv (.inr HBV.out)).1 (HTK.out bv (.inr HBV.out)).2
 have hwf:(Lit.int .i64 (bv:Int)).wf=true:=wf_i64 (HDB.out bv HBV.out)
 refine Ze rfl rfl (fun K hK=> ?_)
 refine Zje (.tmp 21) (.tmp 24) (.tmp 25) 205 rfl lawT Tryz.underlying205 Tryz.underlying3 Zf7 HI6.out.m rfl (tk bv) rfl hkey bv rfl hwf (by unfold maxLen;omega) ?_
 intro w7 hm7 hg7
 have HM7:=Hd hm7
 have HKP:=Hd (KpM.map (n₀:=w.heap.size) HI6.out.m hg7 (by have:=HS5.out;omega) (Nat.le_trans HNW.out HW6.out.size))
 have HKF:Hid (KeepsFrom w5.heap.size W w7):=Hd ((KeepsFrom.of_grownBy (B:=w5.heap.size) (row:=none) ⟨HW6.out.os,HW6.out.tape,HW6.out.output,HW6.out.size,fun k hk _=>HW6.out.block k hk⟩ (fun j e=>by cases e)).trans (KeepsFrom.of_grownBy hg7 fun j e=>by cases e;have:=HS5.out;omega))
 refine hK.out _ _ (fun h=>absurd rfl h) ?_
 clear hK K hm7 hg7 hkey hwf
 try simp only[Act.put]
 refine Vf ?_
 refine⟨HKF.out,(KpM.behind HW6.out HNW.out).trans HKP.out,?_⟩
 show MgI tk w.heap.size bm w5 ((pre++ [x]).map fun x=>dl[x.val]) w7
 rw[HMAP.out]
 exact⟨HI6.out.k.trans HKP.out,by rw[List.length_append,List.length_singleton,Zat];exact HM7.out⟩)
 case done=>(
 rintro Dd W2 hDd hI hKD
 replace hI:MgI tk w.heap.size bm w5 dl.reverse W2:=by(
 have h:MgI tk w.heap.size bm w5 ((bwY dl.length).map fun x=>dl[x.val]) W2:=hI
 rw[Zc8] at h
 exact h)
 have hb2:Below w.heap.size w W2:=HB4.out.trans hI.k.bel
 have HGO2:Hid (∀q,(Value.slice O no co).ownBlock=some q→q < W2.heap.size):=Hd fun q hq=>Nat.lt_of_lt_of_le (HGO.out q hq) hb2.size
 have HKW2:Hid (Kept D w W2):=Hd (Kept.of_below hb2)
 have HND2:Hid (∀q,w.heap.size≤q→ ¬D q):=Hd fun q hq hd=>by have:=HGO.out q ((HDD.out q).1 hd);omega
 have HMAP:Hid (ZV enT 210 3 .i64 W2 bm dl.reverse.length (fun key=>dl.find? fun b=>decide (tk b=key))):=Hd (by rw[← Zgf];exact hI.m)
 have HC0:=Hd (hI.k.keep _ _ _ _ HK0.out)
 have HC1:=Hd (hI.k.keep _ _ _ _ HK1.out)
 have HC3:=Hd (hI.k.keep _ _ _ _ HK3.out)
 have HO2:=Hd (Zv HO.out fun q hq=>hb2.block q (HGO.out q hq))
 have HB2:=Hd hb2
 have HDD2:=Hd hDd
 have HKD:=Hd hKD
 have HSB:Hid (bm < W2.heap.size∧bo < W2.heap.size∧bx < W2.heap.size∧w.heap.size < W2.heap.size∧w.heap.size≤bm∧w.heap.size≤bo∧w.heap.size≤bx):=Hd (by have:=HS5.out;have:=hI.k.bel.size;omega)
 have HLL:Hid (L.length=no):=Hd (Zl Zz (by decide) HO.out)
 clear hI hb2 hKD hseq h0 hks hDd
 gi_wp2_with fail
 gi_loopw [8,28] (fun v8 v28 wr=> ∃(k:Nat) (A:Option Addr) (N c:Nat),v8= .slice A N c∧v28= .int .i64 (k:Int)∧k≤nC∧Mg2 D tk dl L cl base O no co W2 k A N c wr) (fun _ v28 _=>nC - (intOf v28).toNat)
 case atStart=>exact⟨0,none,0,0,rfl,rfl,Nat.zero_le _,World.ownsRow_nil _ _ _ _,HO2.out,Kept.refl _ _⟩
 case round=>(
 obtain⟨k,A,N,c,rfl,rfl,hk,hM⟩:=hrel
 have HM:=Hd hM
 by_cases hlt:k < nC
 ·(
 have hkl:k < cl.length:=by have:=HSC.out.1;omega
 obtain rfl:AC=some ⟨bC,oC,none⟩:=HSC.out.2.1 (by omega)
 have HKL:=Hd hkl
 have HLT:=Hd hlt
 obtain⟨x,hx⟩: ∃x,cl[k]=x:=⟨_,rfl⟩
 have d0:wr.cell? ⟨bC,oC+k,none⟩=some (.int .i64 (x:Int)):=by rw[← hx];exact HSC.out.2.2 wr (HKW2.out.trans hM.k) k hkl
 have HXM:Hid (x∈cl):=Hd (by rw[← hx];exact List.getElem_mem hkl)
 have HX:=Hd hx
 have HXL:=Hd (HCL.out x HXM.out)
 have kx:=(Zb (i:=0) ((hM.k.block bx HSB.out.2.2.1 (HND2.out _ HSB.out.2.2.2.2.2.2)).trans HC3.out)).trans rfl
 have ko:=(Zb (i:=0) ((hM.k.block bo HSB.out.2.1 (HND2.out _ HSB.out.2.2.2.2.2.1)).trans HC1.out)).trans rfl
 have hin:(k:Int) < (nC:Int):=by omega
 have hk9:k≤60000:=by have:=HNC.out;omega
 clear hk hM hlt hkl hx
 gi_wp2_with fail
 clear d0
 refine Zu (VV _) [0,1,2,3,4,5,6,7,8,9] [3,4] 10 (fun w'=>w'.cell? ⟨bx,0,none⟩=some (.map (some bm))∧w'.cell? ⟨bo,0,none⟩=some (.func (.func 89) #[.agg #[v,.slice A1 n1 c1,.slice A2 n2 c2,.slice A3 n3 c3,.slice A4 n4 c4,.slice F nf cf,.slice X nx cx,.slice V nv cv,.slice O no co]] #[])) hmx (by kernel_rfl) (by kernel_rfl) (by kernel_rfl) (by kernel_rfl) ⟨kx,ko⟩ ?_
 simp only[steps,sE,sD]
 clear kx ko
 repeat((first|refine Zf rfl ?_|(refine Zd (v:= ?_) rfl rfl ?_ ?_;rotate_left;(focus(rintro w' ⟨x0,x1⟩;go_simp;try with_reducible rfl))));simp only[Act.put,sA,sB,sC])
 have HMd:=Hd (HM.out.behind ((Below.refl wr.heap.size wr).drew))
 clear HM
 generalize World.drew _=wd at*
 refine Ze rfl rfl (fun K hK=> ?_)
 go_simp
 refine(HOF.out wd (HKW2.out.trans HMd.out.k) x (.inl HXM.out)).mono ?_
 rintro e w6 ⟨rfl,hv⟩
 have HM6:=Hd (HMd.out.behind hv)
 have hm6:=HM6.out.k
 have hs6:w6.cell? ⟨bx,0,none⟩=some (.map (some bm))∧w6.cell? ⟨bo,0,none⟩=some (.func (.func 89) #[.agg #[v,.slice A1 n1 c1,.slice A2 n2 c2,.slice A3 n3 c3,.slice A4 n4 c4,.slice F nf cf,.slice X nx cx,.slice V nv cv,.slice O no co]] #[]):=⟨(Zb (i:=0) ((hm6.block bx HSB.out.2.2.1 (HND2.out _ HSB.out.2.2.2.2.2.2)).trans HC3.out)).trans rfl,(Zb (i:=0) ((hm6.block bo HSB.out.2.1 (HND2.out _ HSB.out.2.2.2.2.2.1)).trans HC1.out)).trans rfl⟩
 have HS6:=Hd hs6
 have hmap6:=HMAP.out.move (hm6.block bm HSB.out.1 (HND2.out _ HSB.out.2.2.2.2.1))
 have k8:w6.cell? ⟨w.heap.size,8,none⟩=some (.slice O no co):=(Zb (i:=8) ((hm6.block w.heap.size HSB.out.2.2.2.1 (HND2.out _ lR)).trans HC0.out)).trans rfl
 refine hK.out _ _ (fun _=>hs6) ?_
 clear hK K hv HMd hs6 hm6
 try simp only[Act.put,sA,sB,sC]
 have hkey:=keyT (x:=tk x) (HTK.out x (.inl HXM.out)).1 (HTK.out x (.inl HXM.out)).2
 obtain⟨mg,hmg⟩: ∃m,mgL tk dl x=m:=⟨_,rfl⟩
 have HMG:=Hd hmg
 have hmg':(dl.find? fun b=>decide (tk b=tk x))=mg:=hmg
 refine Ze rfl rfl (fun K hK=> ?_)
 refine RG (.tmp 33) (.tmp 36) 205 rfl lawT Tryz.underlying205 Tryz.underlying3 zero3 hmap6 rfl (tk x) rfl hkey (mg.getD 0) (by rw[hmg']) mg.isSome (by rw[hmg']) ?_
 refine hK.out _ _ (fun _=>HS6.out) ?_
 clear hK K hkey hmg hmg' hmap6
 try simp only[Act.put,sA,sB,sC]
 cases mg with
 |some b=>(
 simp only[Option.getD_some,Option.isSome_some]
 repeat((first|refine Zf rfl ?_|(refine Zd (v:= ?_) rfl rfl ?_ ?_;rotate_left;(focus(rintro w' ⟨x0,x1⟩;go_simp;try with_reducible rfl))));simp only[Act.put,sA,sB,sC])
 refine Vf ?_
 have HXK:=HX.out
 subst HXK
 obtain⟨g,rfl,⟨u,hu⟩,hfz,hset⟩:=HM6.out.set HGO2.out HDD.out HKL.out HMG.out HXL.out
 have HSET:=Hd hset
 have hxn:((cl[k]'HKL.out:Nat):Int) < (no:Int):=by have:=HXL.out;have:=HLL.out;omega
 have hx9:(cl[k]'HKL.out)≤60000:=by have:=HXL.out;have:=HL.out;omega
 clear HM6 hset HX HXM HXL
 generalize cl[k]'HKL.out=x at*
 gi_wp2_with fail
 go_roundw
 case rel=>exact⟨k+1,A,N,c,rfl,by go_num,HLT.out,HSET.out⟩
 case measure=>(
 have:=HLT.out
 simp[intOf]
 omega))
 |none=>(
 simp only[Option.getD_none,Option.isSome_none]
 repeat((first|refine Zf rfl ?_|(refine Zd (v:= ?_) rfl rfl ?_ ?_;rotate_left;(focus(rintro w' ⟨x0,x1⟩;go_simp;try with_reducible rfl))));simp only[Act.put,sA,sB,sC])
 refine Vf ?_
 clear k8
 have HO:=Hd (ZiH w6 x)
 have HAL:=Hd (show Below w6.heap.size w6 (w6.alloc (.cells #[.int .i64 (x:Int)] 3)) from bA)
 have HM7:=Hd (HM6.out.behind HAL.out)
 have hsz:=HM7.out.k.size
 have hN1:N+1≤100000:=by(
 have h1:=Zl Zz (by decide) HM7.out.o
 have h2:=Zjf tk dl cl k
 have h3:=HNC.out
 have h4:=HSC.out.1
 omega)
 gi_wp2_with (gi_at_builtin;refine V3 (VV _) rfl (.tmp 46) (.tmp 48) rfl W2.heap.size _ N _ rfl HM7.out.o _ _ 1 1 [x] rfl HO.out hN1 hsz ?_;intro A' k' c' w' HK HA)
 go_roundw
 case rel=>exact⟨k+1,A',k',c',rfl,by go_num,HLT.out,by
  have e:=HX.out
  subst e
  exact HM7.out.add HGO2.out HKL.out HMG.out HA.out⟩
 case measure=>(
 have:=HLT.out
 simp[intOf]
 omega)))
 ·(
 obtain rfl:k=nC:=by omega
 have e1:cl.take k=cl:=List.take_of_length_le (by have:=HSC.out.1;omega)
 obtain⟨ho,hl,hkk⟩:=hM
 rw[e1] at ho hl
 have hkd:wr.heap[Dd]?=some (.deferred (some [])):=(hkk.block Dd (Zh HKD.out) (HND2.out _ (Nat.le_trans HN0.out HDD2.out))).trans HKD.out
 have HP:Hid (∀o',(wr.putObj Dd o').ownsRow w.heap.size 3 1 (.slice A N c) N ((otL tk dl cl).flatMap en3)∧(wr.putObj Dd o').ownsRow base 3 1 (.slice O no co) no ((stA tk dl L cl).flatMap en3)∧Kept D w (wr.putObj Dd o')):=Hd fun o'=>by(
 have hDl:Dd < W2.heap.size:=Zh HKD.out
 refine⟨Va (Zv ho fun q hq=>World.putObj_heap_other (by have:=(ho.lt q hq).1;omega)) HB2.out.size,Zv hl fun q hq=>World.putObj_heap_other (by have:=HGO.out q hq;have:=HDD2.out;have:=HN0.out;omega),?_⟩
 have hg:wr.grownBy (wr.putObj Dd o') (some Dd):=grownBy_putObj' wr Dd o'
 have h1:=HKW2.out.trans hkk
 exact⟨hg.os.trans h1.os,hg.tape.trans h1.tape,hg.output.trans h1.output,Nat.le_trans h1.size hg.size,fun b hb hn=>(hg.block b (Nat.lt_of_lt_of_le hb h1.size) fun e=>by injection e with e;have:=HDD2.out;have:=HN0.out;omega).trans (h1.block b hb hn)⟩)
 clear hlt hk ho hl hkk HM
 gi_wp2
 refine⟨by simp,.inl ⟨_,_,rfl,run_takeDeferred hkd,?_⟩⟩
 exact⟨_,by simp[results,Tryz.f87,go_sem],A,N,c,rfl,HP.out _⟩)))
end Go.Proofs.YtmejhedegmjboaaGreat.I
