import Derived.Laws.EntriesVeiled
import Derived.Test.YtmejhedegmjboaaGreatSides
set_option maxRecDepth 100000
set_option maxHeartbeats 2000000
namespace Go.Proofs.YtmejhedegmjboaaGreat
open Go.RowKit Go.Shelf
attribute [local go_sem] Oper.semAt_some
def zSp:Value:= .agg #[.int .i64 0,.int .u8 0,.int .u8 0,.bool false,.int .u64 0]
theorem Zlt:(Tryz.prog.info? 67).map (fun i=>(i.zero,i.size,i.bytes))=some (some zSp,5,32):=by kernel_rfl
theorem ZjI (l:List Sp): ∀u∈l.flatMap spc,u.oneCell'=true:=by
 intro u hu
 obtain⟨x,_,hx⟩:=List.mem_flatMap.1 hu
 simp only[spc,List.mem_cons,List.not_mem_nil,or_false] at hx
 rcases hx with rfl|rfl|rfl|rfl|rfl <;> rfl
theorem Uw {w:World}{o:Oper}{a:Act}{K:Act→World→Prop}{Q:Exit→Act→World→Prop}(s x:Operand)(ho:o.op= .call {callee:= .builtin .append,args:= #[s,x],argTypes:= #[25,25]})
  (base:Nat) (v:Value) (n:Nat) (vs:List Sp) (hs:a.eval s=v) (hown:w.ownsRow base 67 5 v n (vs.flatMap spc)) (g:Nat) (q:Sp) (hx:a.eval x= .slice (some ⟨g,0,none⟩) 1 1) (hg:w.heap[g]?=some (.cells (spc q).toArray 67 (0,0)))
  (hsm:n≤1000) (hbase:base≤w.heap.size)
  (h: ∀A' c' w',Hid (Appended w w' base 67 5 v (.slice A' (n+1) c') (n+1) ((vs++ [q]).flatMap spc))→K (a.put o.dst (.slice A' (n+1) c')) w'):o.wp Tryz.prog a w K Q:=by
 obtain⟨i0,hi0,hz0,hz1,hz2⟩:=info_parts Zlt
 have hcells: ∀j y,((spc q))[j]?=some y→w.cell? ((⟨g,0,none⟩:Addr).add j)=some y:=by(
 intro j u hu
 rw[Addr.add_lit,Nat.zero_add,Zb hg]
 simpa using hu)
 have h1: ∀u∈spc q,u.oneCell'=true:=fun u hu=>ZjI [q] u (by simpa using hu)
 obtain⟨v',w',hrun,h2⟩:=Vk (P:=Tryz.prog) w base 25 25 o.type 67 i0 _ 5 32 Tryz.underlying25 hi0 hz0 hz1 hz2 rfl (by decide) v n _ hown ⟨g,0,none⟩ 1 1 (spc q) rfl hcells h1 (by unfold maxLen;omega) (by omega) hbase rfl
 rw[show vs.flatMap spc++spc q=(vs++ [q]).flatMap spc by simp] at h2
 obtain⟨A',c',rfl⟩:=ZJ h2.own
 unfold Oper.wp execOp
 simp only[ho,resolve,invoke,builtin,Sem.run_bind,Sem.run_pure,Result.andThen_ok,List.map_toArray,List.map_cons,List.map_nil,hs,hx,hrun]
 exact h A' c' w' h2
structure CK (n₀:Nat)(A B:World):Prop where
 bel:Below n₀ A B
 keep: ∀(b:Nat) (cs:Array Value) (t:TypeId) (z:Nat×Nat),A.heap[b]?=some (.cells cs t z)→t≠65→B.heap[b]?=some (.cells cs t z)
theorem CK.of_step {n₀:Nat}{A B:World}(h:StepT n₀ A B):CK n₀ A B:=
 ⟨h.bel,fun b cs t z hb ht=>h.keep b _ hb fun cs' z' e=>by injection e with _ e _;exact ht e⟩
theorem CK.of_grown {n₀ B:Nat}{W W':World}{row:Option Nat}(hg:W.grownBy W' row)(hr: ∀r,row=some r→B≤r∧ ∃o:Obj,W.heap[r]?=some o∧o.isCells=false)(hB:n₀≤B)(hs:n₀≤W.heap.size):CK n₀ W W':=
 ⟨(Below.refl n₀ W).grown hg hs fun j e=>Nat.le_trans hB (hr j e).1,fun b cs t z hb _=>(hg.block b (Zh hb) fun e=>by
  obtain⟨_,o,ho,hc⟩:=hr b e.symm
  rw[hb] at ho
  cases ho
  cases hc).trans hb⟩
theorem ZiX {n₀ base n sz:Nat}{E:TypeId}{A B:World}{v:Value}{xs:List Value}(hE:E≠65)(h:A.ownsRow base E sz v n xs)(k:CK n₀ A B):B.ownsRow base E sz v n xs:=by
 refine⟨h.1,?_⟩
 rcases h.2 with hn|⟨g,cap,cur,hv,hg,hgg,r⟩
 ·exact .inl hn
 ·exact .inr ⟨g,cap,cur,hv,hg,k.keep g _ _ _ hgg hE,r⟩
structure OfJ (l:List Nd)(A:Option Addr)(m c n₀ b1 b2 b3 bf bs bp:Nat)(w:World)(v u:Value)(ls es:List Sp)(W:World):Prop where
 x1:Boxed W b1 47 (.slice A m c)
 x2:Boxed W b2 25 v
 x3:Boxed W b3 25 u
 xf:Boxed W bf 47 (.slice A m c)
 xs:Boxed W bs 118 (.func (.func 92) #[] #[.pointer (some ⟨bf,0,none⟩)])
 xp:Boxed W bp 151 (.func (.func 75) #[] #[.pointer (some ⟨bs,0,none⟩)])
 o2:W.ownsRow n₀ 67 5 v ls.length (ls.flatMap spc)
 o3:W.ownsRow n₀ 67 5 u es.length (es.flatMap spc)
 ap: ∀q,v.ownBlock=some q→u.ownBlock≠some q
 ne:b2≠b3
 lo2:n₀≤b2
 lo3:n₀≤b3
 ns:Ns W n₀ A m c l
 bel:Below n₀ w W
 low:n₀≤w.heap.size
section
variable {l:List Nd} {A:Option Addr} {m c n₀ b1 b2 b3 bf bs bp:Nat} {w W W' W1 W2:World} {v u v':Value} {ls es:List Sp} {q:Sp}
theorem OfJ.keep (h:OfJ l A m c n₀ b1 b2 b3 bf bs bp w v u ls es W)(k:CK n₀ W W'):OfJ l A m c n₀ b1 b2 b3 bf bs bp w v u ls es W':=
 ⟨k.keep _ _ _ _ h.x1 (by decide),k.keep _ _ _ _ h.x2 (by decide),k.keep _ _ _ _ h.x3 (by decide),k.keep _ _ _ _ h.xf (by decide),k.keep _ _ _ _ h.xs (by decide),k.keep _ _ _ _ h.xp (by decide),
  ZiX (by decide) h.o2 k,ZiX (by decide) h.o3 k,h.ap,h.ne,h.lo2,h.lo3,h.ns.below k.bel,h.bel.trans k.bel,h.low⟩
theorem OfJ.behind (h:OfJ l A m c n₀ b1 b2 b3 bf bs bp w v u ls es W)(k:Below W.heap.size W W'):OfJ l A m c n₀ b1 b2 b3 bf bs bp w v u ls es W':=
 h.keep ⟨k.mono (Nat.le_trans h.low h.bel.size),fun b _ _ _ hb _=>(k.block b (Zh hb)).trans hb⟩
theorem OfJ.size (h:OfJ l A m c n₀ b1 b2 b3 bf bs bp w v u ls es W):n₀≤W.heap.size:=Nat.le_trans h.low h.bel.size
theorem ZbL {W:World}{B n sz base:Nat}{t E:TypeId}{v x:Value}{xs:List Value}(hb:Boxed W B t x)(hte:t≠E)(ho:W.ownsRow base E sz v n xs):v.ownBlock≠some B:=by
 intro e
 rcases ho.2 with⟨rfl,_⟩|⟨g,cap,cur,rfl,_,hg,_⟩
 ·cases e
 ·(
 have e':g=B:=by simpa [Value.ownBlock] using e
 subst e'
 rw[show W.heap[g]?=_ from hb] at hg
 injection hg with hg
 injection hg with _ h2 _
 exact hte h2)
theorem Yg {W:World}{n sz base q:Nat}{E:TypeId}{v:Value}{xs:List Value}(ho:W.ownsRow base E sz v n xs)(e:v.ownBlock=some q):base≤q∧q < W.heap.size∧ ∃cur,W.heap[q]?=some (.cells cur E (0,0)):=by
 rcases ho.2 with⟨rfl,_⟩|⟨g,cap,cur,rfl,hb,hg,_⟩
 ·cases e
 ·have e':g=q:=by simpa [Value.ownBlock] using e
  subst e'
  exact⟨hb,Zh hg,cur,hg⟩
theorem V9 {W W':World}{B n sz base:Nat}{t E:TypeId}{v v' x:Value}{xs ys:List Value}(hb:Boxed W B t x)(hte:t≠E)(ho:W.ownsRow base E sz v n xs){n':Nat}(ha:Appended W W' base E sz v v' n' ys):Boxed W' B t x:=
 (ha.grown.block B hb.lt fun e=>ZbL hb hte ho e.symm).trans hb
theorem OfJ.addL (h:OfJ l A m c n₀ b1 b2 b3 bf bs bp w v u ls es W)(ha:Appended W W' n₀ 67 5 v v' (ls.length+1) ((ls++ [q]).flatMap spc)):
  OfJ l A m c n₀ b1 b2 b3 bf bs bp w v' u (ls++ [q]) es (W'.setCell ⟨b2,0,none⟩ v')∧KpT n₀ W (W'.setCell ⟨b2,0,none⟩ v')∧KeepsOthers W (W'.setCell ⟨b2,0,none⟩ v'):=by
 have y2:=V9 h.x2 (by decide) h.o2 ha
 have hother: ∀{B:Nat} {t:TypeId} {x:Value},Boxed W B t x→t≠67→B≠b2→Boxed (W'.setCell ⟨b2,0,none⟩ v') B t x:=fun hb ht hne=>
  (Below.heap_setCell _ _ _ _ hne).trans (V9 hb ht h.o2 ha)
 have hdiff: ∀{B:Nat} {t:TypeId} {x:Value},Boxed W B t x→t≠25→B≠b2:=by(
 rintro B t x hb ht rfl
 have:=h.x2
 unfold Boxed at this hb
 rw[this] at hb
 injection hb with hb
 injection hb with _ hb _
 exact ht hb.symm)
 have hn2:v'.ownBlock≠some b2:=ZbL y2 (by decide) ha.own
 have hbel:Below n₀ W (W'.setCell ⟨b2,0,none⟩ v'):=((Below.refl n₀ W).grown ha.grown h.size fun j e=>(Yg h.o2 e).1).setCell (p:=⟨b2,0,none⟩) h.lo2 _
 have hap: ∀j,v'.ownBlock=some j→u.ownBlock≠some j:=by(
 intro j e1 e2
 rcases ha.place with e|⟨g,e,hg⟩
 ·exact h.ap j (by rw[← e];exact e1) e2
 ·have:=(Yg h.o3 e2).2.1
  rw[e] at e1
  injection e1 with e1
  omega)
 have hown: ∀{n':Nat} {xs:List Value} {y:Value},W'.ownsRow n₀ 67 5 y n' xs→y.ownBlock≠some b2→(W'.setCell ⟨b2,0,none⟩ v').ownsRow n₀ 67 5 y n' xs:=by(
 intro n' xs y ho hne
 refine⟨ho.1,?_⟩
 rcases ho.2 with hn|⟨g,cap,cur,hv,hg,hgg,r⟩
 ·exact .inl hn
 ·refine .inr ⟨g,cap,cur,hv,hg,(Below.heap_setCell _ _ _ _ ?_).trans hgg,r⟩
  rintro rfl
  exact hne (by rw[hv];rfl))
 have ho3:W'.ownsRow n₀ 67 5 u es.length (es.flatMap spc):=by(
 refine⟨h.o3.1,?_⟩
 rcases h.o3.2 with hn|⟨g,cap,cur,hv,hg,hgg,r⟩
 ·exact .inl hn
 ·refine .inr ⟨g,cap,cur,hv,hg,(ha.grown.block g (Zh hgg) fun e=> ?_).trans hgg,r⟩
  exact h.ap g e.symm (by rw[hv];rfl))
 refine⟨⟨hother h.x1 (by decide) (hdiff h.x1 (by decide)),y2.set v',hother h.x3 (by decide) h.ne.symm,hother h.xf (by decide) (hdiff h.xf (by decide)),hother h.xs (by decide) (hdiff h.xs (by decide)),hother h.xp (by decide) (hdiff h.xp (by decide)),
  ?_,hown ho3 (ZbL (V9 h.x2 (by decide) h.o2 ha) (by decide) ho3),hap,h.ne,h.lo2,h.lo3,h.ns.below hbel,h.bel.trans hbel,h.low⟩,⟨hbel,fun b cs t z hb ht1 ht2=> ?_⟩,?_⟩
 ·rw[List.length_append,List.length_singleton]
  exact hown ha.own hn2
 ·have hne:b≠b2:=by
   rintro rfl
   have:=h.x2
   unfold Boxed at this
   rw[this] at hb
   injection hb with hb
   injection hb with _ hb _
   exact ht1 hb.symm
  refine(Below.heap_setCell _ _ _ _ hne).trans ((ha.grown.block b (Zh hb) fun e=> ?_).trans hb)
  obtain⟨_,_,cur,hcur⟩:=Yg h.o2 e.symm
  rw[hcur] at hb
  injection hb with hb
  injection hb with _ hb _
  exact ht2 hb.symm
 ·(
 refine(KeepsOthers.of_grownBy ha.grown fun j o ej hj=> ?_).trans (KeepsOthers.setCell _ _ _)
 obtain⟨_,_,cur,hcur⟩:=Yg h.o2 ej
 rw[hcur] at hj
 cases hj
 rfl)
theorem OfJ.swap (h:OfJ l A m c n₀ b1 b2 b3 bf bs bp w v u ls es W):OfJ l A m c n₀ b1 b3 b2 bf bs bp w u v es ls W:=
 ⟨h.x1,h.x3,h.x2,h.xf,h.xs,h.xp,h.o3,h.o2,fun q e1 e2=>h.ap q e2 e1,h.ne.symm,h.lo3,h.lo2,h.ns,h.bel,h.low⟩
theorem OfJ.addE (h:OfJ l A m c n₀ b1 b2 b3 bf bs bp w u v es ls W)(ha:Appended W W' n₀ 67 5 v v' (ls.length+1) ((ls++ [q]).flatMap spc)):
  OfJ l A m c n₀ b1 b2 b3 bf bs bp w u v' es (ls++ [q]) (W'.setCell ⟨b3,0,none⟩ v')∧KpT n₀ W (W'.setCell ⟨b3,0,none⟩ v')∧KeepsOthers W (W'.setCell ⟨b3,0,none⟩ v'):=by
 obtain⟨h1,h2,h3⟩:=h.swap.addL ha
 exact⟨h1.swap,h2,h3⟩
end
def labP (l:List Nd)(pre:List (Fin l.length)):List Sp:=pre.flatMap fun k=>labS k.val l[k.val] (Vm l k.val)
def effP (l:List Nd)(pre:List (Fin l.length)):List Sp:=pre.flatMap fun k=>effS k.val l[k.val] (Vm l k.val)
theorem YD {n₀:Nat}{A B:World}(h:Below A.heap.size A B)(hn:n₀≤A.heap.size):KpT n₀ A B:=⟨h.mono hn,fun b _ _ _ hb _ _=>(h.block b (Zh hb)).trans hb⟩
end Go.Proofs.YtmejhedegmjboaaGreat
namespace Go.Proofs.YtmejhedegmjboaaGreat
open Go.RowKit Go.Shelf
attribute [local go_sem] Oper.semAt_some
structure Told (w w':World)(v u:Value)(ls es:List Sp):Prop where
 o2:w'.ownsRow w.heap.size 67 5 v ls.length (ls.flatMap spc)
 o3:w'.ownsRow w.heap.size 67 5 u es.length (es.flatMap spc)
 ap: ∀q,v.ownBlock=some q→u.ownBlock≠some q
 bel:Below w.heap.size w w'
theorem ZcB (l:List Nd): ∀pre:List (Fin l.length),(labP l pre).length≤2*pre.length
 | []=>by simp[labP]
 |x::pre=>by(
 have h1:=ZcB l pre
 have h2:=(ZcO x.val l[x.val] (Vm l x.val)).2
 simp only[labP,List.flatMap_cons,List.length_append,List.length_cons] at h1 ⊢
 omega)
theorem ZcC (l:List Nd): ∀pre:List (Fin l.length),(effP l pre).length≤pre.length
 | []=>by simp[effP]
 |x::pre=>by(
 have h1:=ZcC l pre
 have h2:=ZcP x.val l[x.val] (Vm l x.val)
 simp only[effP,List.flatMap_cons,List.length_append,List.length_cons] at h1 ⊢
 omega)
theorem ZcD: ∀(l:List Nd) (k0:Nat) (ss:List Nat),ss.length=l.length→((List.finRange l.length).flatMap fun i:Fin l.length=>labS (k0+i.val) l[i.val] (ss.getD i.val 0))=lab k0 l ss
 | [],_,_,_=>rfl
 |x::l,k0,[],h=>by simp at h
 |x::l,k0,s::ss,h=>by(
 have:=ZcD l (k0+1) ss (by simpa using h)
 rw[lab, ← this]
 show List.flatMap (fun i:Fin (l.length+1)=>labS (k0+i.val) ((x::l)[i.val]'(i.isLt)) ((s::ss).getD i.val 0)) (List.finRange (l.length+1))=_
 rw[List.finRange_succ,List.flatMap_cons,List.flatMap_map]
 congr 1
 congr 1
 funext i
 simp only[Fin.val_succ,List.getElem_cons_succ,List.getD_cons_succ]
 rw[show k0+(i.val+1)=k0+1+i.val by omega])
theorem ZcE: ∀(l:List Nd) (k0:Nat) (ss:List Nat),ss.length=l.length→((List.finRange l.length).flatMap fun i:Fin l.length=>effS (k0+i.val) l[i.val] (ss.getD i.val 0))=eff k0 l ss
 | [],_,_,_=>rfl
 |x::l,k0,[],h=>by simp at h
 |x::l,k0,s::ss,h=>by(
 have:=ZcE l (k0+1) ss (by simpa using h)
 rw[eff, ← this]
 show List.flatMap (fun i:Fin (l.length+1)=>effS (k0+i.val) ((x::l)[i.val]'(i.isLt)) ((s::ss).getD i.val 0)) (List.finRange (l.length+1))=_
 rw[List.finRange_succ,List.flatMap_cons,List.flatMap_map]
 congr 1
 congr 1
 funext i
 simp only[Fin.val_succ,List.getElem_cons_succ,List.getD_cons_succ]
 rw[show k0+(i.val+1)=k0+1+i.val by omega])
theorem ZeQ {l:List Nd}(h:ZI l=0):labP l (List.finRange l.length)=labB l:=by
 have:=ZcD l 0 (sds l [0]) (Za6 h)
 unfold labB labP Vm
 rw[if_pos h, ← this]
 simp only[Nat.zero_add]
theorem ZeR {l:List Nd}(h:ZI l=0):effP l (List.finRange l.length)=effB l:=by
 have:=ZcE l 0 (sds l [0]) (Za6 h)
 unfold effB effP Vm
 rw[if_pos h, ← this]
 simp only[Nat.zero_add]
theorem CK.again {n₀ B:Nat}{W:World}{t:TypeId}{v:Value}(h:Boxed W B t v)(hB:n₀≤B):CK n₀ W (W.setCell ⟨B,0,none⟩ v):=by
 refine⟨(Below.refl n₀ W).setCell (p:=⟨B,0,none⟩) hB v,fun b cs t' z hb _=> ?_⟩
 by_cases e:b=B
 ·(
 subst e
 have h2:=h.set v
 unfold Boxed at h h2
 rw[h] at hb
 rw[h2,hb])
 ·exact(Below.heap_setCell _ _ _ _ e).trans hb
theorem Ua {A B:World}(h:Below A.heap.size A B):KeepsOthers A B:=⟨h.size,fun k _ hk _=>(h.block k (Zh hk)).trans hk⟩
theorem _root_.Go.Boxed.keep {W W':World}{B:Nat}{t:TypeId}{v:Value}(h:Boxed W B t v)(k:Below W.heap.size W W'):Boxed W' B t v:=(k.block B h.lt).trans h
theorem ZjJ (A:Option Addr)(m c:Nat)(l:List Nd)(w:World)(hr:Ns w w.heap.size A m c l)(hf: ∀x∈l,x.Fits):
  CallsIn Fence.wide 6 Tryz.prog 45 #[.slice A m c] w fun e w'=> ∃v u,e= .returned (.tuple #[v,u])∧Told w w' v u (labB l) (effB l):=by
 have hcheck:=fun W (hb:Below w.heap.size w W)=>check_any A m c l W ((hr.below hb).mono hb.size) hf
 clear hf
 refine callsIn_of_wp_marks Tryz.func45 rfl trivial ?_ rfl
 simp only[Tryz.ntmps45,List.size_toArray,List.length_cons,List.length_nil,Nat.reduceAdd,Nat.reduceSub,Array.replicate_succ,Array.replicate_zero,List.push_toArray,List.append_toArray,List.nil_append,List.cons_append]
 gi_wp2_with fail
 have k3:Below w.heap.size w (((w.alloc (.cells #[.slice A m c] 47)).alloc (.cells #[.slice none 0 0] 25)).alloc (.cells #[.slice none 0 0] 25)):=(((Below.refl _ w).alloc lR _).alloc (by simp) _).alloc (by simp;omega) _
 have c1:Boxed (((w.alloc (.cells #[.slice A m c] 47)).alloc (.cells #[.slice none 0 0] 25)).alloc (.cells #[.slice none 0 0] 25)) w.heap.size 47 (.slice A m c):=((Boxed.new w 47 (.slice A m c)).alloc _).alloc _
 have c2:Boxed (((w.alloc (.cells #[.slice A m c] 47)).alloc (.cells #[.slice none 0 0] 25)).alloc (.cells #[.slice none 0 0] 25)) (w.heap.size+1) 25 (.slice none 0 0):=by have:=(Boxed.new (w.alloc (.cells #[.slice A m c] 47)) 25 (.slice none 0 0)).alloc (.cells #[.slice none 0 0] 25);simpa using this
 have c3:Boxed (((w.alloc (.cells #[.slice A m c] 47)).alloc (.cells #[.slice none 0 0] 25)).alloc (.cells #[.slice none 0 0] 25)) (w.heap.size+1+1) 25 (.slice none 0 0):=by have:=Boxed.new ((w.alloc (.cells #[.slice A m c] 47)).alloc (.cells #[.slice none 0 0] 25)) 25 (.slice none 0 0);simpa using this
 generalize (((w.alloc (.cells #[.slice A m c] 47)).alloc (.cells #[.slice none 0 0] 25)).alloc (.cells #[.slice none 0 0] 25))=w0 at*
 refine⟨trivial,(callsIn_wide.2 (hcheck w0 k3)).mono ?_⟩
 rintro e w1 ⟨rfl,hb1⟩
 replace c1:=c1.keep hb1
 replace c2:=c2.keep hb1
 replace c3:=c3.keep hb1
 replace k3:=k3.trans (hb1.mono k3.size)
 clear hcheck hb1
 have hl1:=c1.lt
 have d1:=c1.cell
 have d2:=c2.cell
 have d3:=c3.cell
 have f2:=c2.frozen
 have f3:=c3.frozen
 by_cases hc:ZI l=0
 ·(
 rw[hc]
 have d1a:=fun o1 o2 o3=>(((c1.alloc o1).alloc o2).alloc o3).cell
 gi_wp2_with fail
 refine⟨trivial,(callsIn_wide.2 (ZbD A m c _)).mono ?_⟩
 rintro e w2 ⟨rfl,rfl⟩
 gi_wp2_with fail
 refine⟨trivial,(Zhv _ A m c _).mono ?_⟩
 rintro e w2 ⟨rfl,rfl⟩
 gi_wp2_with fail
 have y1:=(((c1.alloc (.cells #[.slice A m c] 47)).alloc (.cells #[.func (.func 92) #[] #[.pointer (some ⟨w1.heap.size,0,none⟩)]] 118)).alloc (.cells #[.func (.func 75) #[] #[.pointer (some ⟨w1.heap.size+1,0,none⟩)]] 151)).alloc (.cells #[.slice A m c] 47)
 have y2:=(((c2.alloc (.cells #[.slice A m c] 47)).alloc (.cells #[.func (.func 92) #[] #[.pointer (some ⟨w1.heap.size,0,none⟩)]] 118)).alloc (.cells #[.func (.func 75) #[] #[.pointer (some ⟨w1.heap.size+1,0,none⟩)]] 151)).alloc (.cells #[.slice A m c] 47)
 have y3:=(((c3.alloc (.cells #[.slice A m c] 47)).alloc (.cells #[.func (.func 92) #[] #[.pointer (some ⟨w1.heap.size,0,none⟩)]] 118)).alloc (.cells #[.func (.func 75) #[] #[.pointer (some ⟨w1.heap.size+1,0,none⟩)]] 151)).alloc (.cells #[.slice A m c] 47)
 have yf:=(((Boxed.new w1 47 (.slice A m c)).alloc (.cells #[.func (.func 92) #[] #[.pointer (some ⟨w1.heap.size,0,none⟩)]] 118)).alloc (.cells #[.func (.func 75) #[] #[.pointer (some ⟨w1.heap.size+1,0,none⟩)]] 151)).alloc (.cells #[.slice A m c] 47)
 have ys:=((Boxed.new (w1.alloc (.cells #[.slice A m c] 47)) 118 (.func (.func 92) #[] #[.pointer (some ⟨w1.heap.size,0,none⟩)])).alloc (.cells #[.func (.func 75) #[] #[.pointer (some ⟨w1.heap.size+1,0,none⟩)]] 151)).alloc (.cells #[.slice A m c] 47)
 have yp:=(Boxed.new ((w1.alloc (.cells #[.slice A m c] 47)).alloc (.cells #[.func (.func 92) #[] #[.pointer (some ⟨w1.heap.size,0,none⟩)]] 118)) 151 (.func (.func 75) #[] #[.pointer (some ⟨w1.heap.size+1,0,none⟩)])).alloc (.cells #[.slice A m c] 47)
 have yi:=Boxed.new (((w1.alloc (.cells #[.slice A m c] 47)).alloc (.cells #[.func (.func 92) #[] #[.pointer (some ⟨w1.heap.size,0,none⟩)]] 118)).alloc (.cells #[.func (.func 75) #[] #[.pointer (some ⟨w1.heap.size+1,0,none⟩)]] 151)) 47 (.slice A m c)
 simp only[World.size_alloc] at ys yp yi
 have k5:Below w.heap.size w ((((w1.alloc (.cells #[.slice A m c] 47)).alloc (.cells #[.func (.func 92) #[] #[.pointer (some ⟨w1.heap.size,0,none⟩)]] 118)).alloc (.cells #[.func (.func 75) #[] #[.pointer (some ⟨w1.heap.size+1,0,none⟩)]] 151)).alloc (.cells #[.slice A m c] 47)):=
  (((k3.alloc k3.size _).alloc (by have:=k3.size;simp;omega) _).alloc (by have:=k3.size;simp;omega) _).alloc (by have:=k3.size;simp;omega) _
 generalize ((((w1.alloc (.cells #[.slice A m c] 47)).alloc (.cells #[.func (.func 92) #[] #[.pointer (some ⟨w1.heap.size,0,none⟩)]] 118)).alloc (.cells #[.func (.func 75) #[] #[.pointer (some ⟨w1.heap.size+1,0,none⟩)]] 151)).alloc (.cells #[.slice A m c] 47))=w5 at*
 have J0:OfJ l A m c w.heap.size w.heap.size (w.heap.size+1) (w.heap.size+1+1) w1.heap.size (w1.heap.size+1) (w1.heap.size+1+1) w (.slice none 0 0) (.slice none 0 0) [] [] w5:=
  ⟨y1,y2,y3,yf,ys,yp,World.ownsRow_nil _ _ _ _,World.ownsRow_nil _ _ _ _,(fun _ e=>by cases e),by omega,by omega,by omega,hr.below k5,k5,Nat.le_refl _⟩
 have hn5:=k5.size
 clear y1 y2 y3 yf ys yp d1a
 have hmx:Tryz.prog.follows .mixedOrders=true:=by kernel_rfl
 refine ZeD (gf:=123) (lb:= #[.pointer (some ⟨w1.heap.size+1+1+1,0,none⟩)]) rfl (enters_of Tryz.func123 (by kernel_rfl) rfl) (ZbV (6 - 1) (w1.heap.size+1+1+1) w.heap.size A m c l hc w5 yi.cell (hr.below k5) hn5)
  ZdU (fun W l' o o' h1 h2 h3=>ZmO hn5 W l' o o' h1 h2 h3) StepT.others (fun _=>rfl)
  (fun pre W=> ∃v u,OfJ l A m c w.heap.size w.heap.size (w.heap.size+1) (w.heap.size+1+1) w1.heap.size (w1.heap.size+1) (w1.heap.size+1+1) w v u (labP l pre) (effP l pre) W)
  (fun s W W' row hs hg hrow=>by obtain⟨v,u,h⟩:=hs;exact⟨v,u,h.keep (CK.of_grown hg hrow hn5 h.size)⟩)
  (fun pre W W' hs hst=>by obtain⟨v,u,h⟩:=hs;exact⟨v,u,h.keep (CK.of_step hst)⟩)
  ⟨_,_,J0⟩
  (fun x=> {tmps:= #[.slice A m c,.pointer (some ⟨w.heap.size,0,none⟩),.pointer (some ⟨w.heap.size+1,0,none⟩),.pointer (some ⟨w.heap.size+1+1,0,none⟩),.pointer (some ⟨w1.heap.size+1,0,none⟩),.pointer (some ⟨w1.heap.size+1+1,0,none⟩),.int .i64 (x.val:Int),.int .u8 (Vm l x.val:Int),.slice A m c,.int .i64 0,.bool false,.slice A m c,.func (.func 92) #[] #[.pointer (some ⟨w1.heap.size,0,none⟩)],.func (.func 75) #[] #[.pointer (some ⟨w1.heap.size+1,0,none⟩)],.slice A m c,.func (.func 123) #[] #[.pointer (some ⟨w1.heap.size+1+1+1,0,none⟩)],.int .i64 (x.val:Int),.int .u8 (Vm l x.val:Int),undef,undef,undef,undef,undef,undef,undef,undef,undef,undef,undef,undef,undef,undef,undef,undef,undef,undef,undef,undef,undef,undef,undef,undef,undef,undef,undef,undef,undef,undef],defers:= []}) ?assign ?body ?done
 case assign=>(
 intro yl x W K hK
 unfold KH
 gi_wp2
 exact hK)
 case body=>(
 rintro yl pre ⟨k,hk⟩ W ⟨v,u,hJ⟩ hlen
 have hm:=hJ.ns.len
 have hlab:(labP l pre).length≤256:=by(
 have h1:=ZcB l pre
 rw[List.length_finRange] at hlen
 have:=(UG hc).2
 omega)
 have heff:(effP l pre).length≤256:=by(
 have h1:=ZcC l pre
 rw[List.length_finRange] at hlen
 have:=(UG hc).2
 omega)
 have HLS:Hid (labP l (pre++ [⟨k,hk⟩])=labP l pre++labS k l[k] (Vm l k)):=Hd (by simp[labP])
 have HES:Hid (effP l (pre++ [⟨k,hk⟩])=effP l pre++effS k l[k] (Vm l k)):=Hd (by simp[effP])
 generalize labP l pre=ls at*
 generalize effP l pre=es at*
 clear c1 c2 c3 d1 d2 d3 f2 f3 k3 yi k5 J0 hr hn5
 obtain⟨b2,hb2⟩: ∃b2,b2=w.heap.size+1:=⟨_,rfl⟩
 obtain⟨b3,hb3⟩: ∃b3,b3=w.heap.size+1+1:=⟨_,rfl⟩
 obtain⟨bs,hbs⟩: ∃bs,bs=w1.heap.size+1:=⟨_,rfl⟩
 obtain⟨bp,hbp⟩: ∃bp,bp=w1.heap.size+1+1:=⟨_,rfl⟩
 rw[← hb3, ← hb2, ← hbp, ← hbs] at hJ
 show Code.wpIn _ _ _ _ _ {tmps:= #[.slice A m c,.pointer (some ⟨w.heap.size,0,none⟩),.pointer (some ⟨w.heap.size+1,0,none⟩),.pointer (some ⟨w.heap.size+1+1,0,none⟩),.pointer (some ⟨w1.heap.size+1,0,none⟩),.pointer (some ⟨w1.heap.size+1+1,0,none⟩),.int .i64 (k:Int),.int .u8 (Vm l k:Int),.slice A m c,.int .i64 0,.bool false,.slice A m c,.func (.func 92) #[] #[.pointer (some ⟨w1.heap.size,0,none⟩)],.func (.func 75) #[] #[.pointer (some ⟨w1.heap.size+1,0,none⟩)],.slice A m c,.func (.func 123) #[] #[.pointer (some ⟨w1.heap.size+1+1+1,0,none⟩)],.int .i64 (k:Int),.int .u8 (Vm l k:Int),undef,undef,undef,undef,undef,undef,undef,undef,undef,undef,undef,undef,undef,undef,undef,undef,undef,undef,undef,undef,undef,undef,undef,undef,undef,undef,undef,undef,undef,undef],defers:= []} _
 rw[← hb3, ← hb2, ← hbp, ← hbs]
 obtain⟨s,hs⟩: ∃s,s=Vm l k:=⟨_,rfl⟩
 rw[← hs] at HLS HES ⊢
 obtain⟨n0,hn0⟩: ∃n0,n0=w.heap.size:=⟨_,rfl⟩
 obtain⟨bf,hbf⟩: ∃bf,bf=w1.heap.size:=⟨_,rfl⟩
 rw[← hbf, ← hn0] at hJ ⊢
 clear hb2 hb3 hbs hbp hs hn0 hbf hl1
 obtain⟨b,o,rfl,-⟩:=hJ.ns.node hk
 have hkm:k < m:=by omega
 obtain⟨x,hx⟩: ∃x,l[k]=x:=⟨_,rfl⟩
 have HX:=Hd hx
 rw[hx] at HLS HES
 have hnode: ∀W',Ns W' n0 (some ⟨b,o,none⟩) m c l→W'.cell? ⟨b,o+k*10,none⟩=some (.int .u8 x.k):=fun W' h=>by(
 obtain⟨b',o',e,-,h0,-⟩:=h.node hk
 injection e with e
 injection e with e1 e2
 rw[e1,e2,h0,hx])
 have HND:=Hd hnode
 clear hx hnode
 gi_wp2
 refine Zu (VU _ _) [0,1,2,3,4,5,6,7] [4,5,6,7] 7 (fun w'=>w'.cell? ⟨b2,0,none⟩=some v∧w'.cell? ⟨bp,0,none⟩=some (.func (.func 75) #[] #[.pointer (some ⟨bs,0,none⟩)])) hmx (by kernel_rfl) (by kernel_rfl) (by kernel_rfl) (by kernel_rfl) ⟨hJ.x2.cell,hJ.xp.cell⟩ ?_
 simp only[steps,sE,sD]
 repeat(first|(refine Zd (v:= ?_) rfl rfl ?_ ?_;rotate_left;(focus(rintro w' ⟨hS0,hS1⟩;go_simp;try with_reducible rfl));simp only[Act.put,sA,sB,sC]))
 have JDa:=hJ.behind ((Below.refl _ W).drew)
 refine Ze rfl rfl (fun K hK=> ?_)
 go_simp
 refine(ZiB k s bs bf n0 (some ⟨b,o,none⟩) m c l _ JDa.xs.cell JDa.xf.cell JDa.ns JDa.size hk).mono ?_
 rintro e w4a ⟨rfl,hb4a⟩
 have J4a:=JDa.behind hb4a
 refine hK.out _ _ (fun _=>⟨J4a.x2.cell,J4a.xp.cell⟩) ?_
 clear hK K
 try simp only[Act.put,sA,sB,sC]
 refine Ze rfl rfl (fun K hK=> ?_)
 rw[HX.out]
 go_simp
 have hala:=(Below.refl _ w4a).alloc lR (.cells #[.int .i64 (k:Int),.int .u8 0,.int .u8 (s:Int),.bool x.lv,.int .u64 x.ln] 67)
 have J5a:=J4a.behind hala
 refine hK.out _ _ (fun _=>⟨J5a.x2.cell,J5a.xp.cell⟩) ?_
 clear hK K
 try simp only[Act.put,sA,sB,sC]
 refine Ze rfl rfl (fun K hK=> ?_)
 refine Uw (.tmp 18) (.tmp 23) rfl n0 v _ (ls) rfl J5a.o2 w4a.heap.size ⟨k,0,s,x.lv,x.ln⟩ rfl (heap_alloc_new w4a _) (by first|omega|(simp only[List.length_append,List.length_singleton];omega)) J5a.size ?_
 intro A6a c6a w6a HAa
 have z2a:=V9 J5a.x2 (by decide) J5a.o2 HAa.out
 have zpa:=V9 J5a.xp (by decide) J5a.o2 HAa.out
 obtain⟨J7a,K7a,O7a⟩:=J5a.addL HAa.out
 have KBa:=ZdU (YD (((Below.refl _ W).drew.trans hb4a).trans (hala.mono hb4a.size)) hJ.size) K7a
 have OBa:=(Ua (A:=W) (((Below.refl _ W).drew.trans hb4a).trans (hala.mono hb4a.size))).trans O7a
 refine hK.out _ _ (fun _=>⟨z2a.cell,zpa.cell⟩) ?_
 clear hK K
 try simp only[Act.put,sA,sB,sC]
 refine Ze rfl rfl (fun K hK=> ?_)
 have g1:=z2a.cell
 have g2:=z2a.frozen
 go_simp
 refine hK.out _ _ (fun h=>absurd rfl h) ?_
 clear hK K g1 g2
 refine Vf ?_
 clear HAa z2a zpa J5a J4a JDa K7a O7a hala hb4a
 generalize hv7:Value.slice A6a (ls.length+1) c6a=v7 at*
 generalize w6a.setCell ⟨b2,0,none⟩ v7=w7 at*
 have hb1c:=J7a.x1.cell
 have hkc:=HND.out w7 J7a.ns
 clear hv7
 by_cases h5:x.k=5
 case neg=>(
 have h5':(x.k==5)=false:=by simpa using h5
 have EL:labP l (pre++ [⟨k,hk⟩])=ls++ [⟨k,0,s,x.lv,x.ln⟩]:=by rw[HLS.out];simp[labS,h5]
 have EE:effP l (pre++ [⟨k,hk⟩])=es:=by rw[HES.out];simp[effS,h5]
 have HEND:Hid (KeepsOthers W w7∧KpT n0 W w7∧ ∃v u,OfJ l (some ⟨b,o,none⟩) m c n0 n0 b2 b3 bf bs bp w v u (labP l (pre++ [⟨k,hk⟩])) (effP l (pre++ [⟨k,hk⟩])) w7):=Hd ⟨OBa,KBa,_,_,by rw[EL,EE];exact J7a⟩
 clear EL EE OBa KBa J7a HND HX HLS HES hJ h5
 gi_wp2
 exact HEND.out)
 case pos=>(
 rw[h5] at hkc
 have EL:labP l (pre++ [⟨k,hk⟩])=ls++ [⟨k,0,s,x.lv,x.ln⟩]++ [⟨k,1,QU s,x.pv,x.pn⟩]:=by rw[HLS.out];simp[labS,h5]
 have EE:effP l (pre++ [⟨k,hk⟩])=es++ [⟨k,2,s,x.ev,x.en⟩]:=by rw[HES.out];simp[effS,h5]
 have HEL:=Hd EL
 have HEE:=Hd EE
 clear EL EE HLS HES h5
 gi_wp2
 refine Zu (VU _ _) [0,1,2,3,4,5,6,7,8] [4,5,6,7,8] 8 (fun w'=>w'.cell? ⟨b2,0,none⟩=some v7∧w'.cell? ⟨bp,0,none⟩=some (.func (.func 75) #[] #[.pointer (some ⟨bs,0,none⟩)])) hmx (by kernel_rfl) (by kernel_rfl) (by kernel_rfl) (by kernel_rfl) ⟨J7a.x2.cell,J7a.xp.cell⟩ ?_
 simp only[steps,sE,sD]
 repeat(first|(refine Zd (v:= ?_) rfl rfl ?_ ?_;rotate_left;(focus(rintro w' ⟨hS0,hS1⟩;go_simp;try with_reducible rfl));simp only[Act.put,sA,sB,sC]))
 have JDb:=J7a.behind ((Below.refl _ w7).drew)
 refine Ze rfl rfl (fun K hK=> ?_)
 go_simp
 refine(Vd s _).mono ?_
 rintro e wt ⟨rfl,rfl⟩
 refine hK.out _ _ (fun _=>⟨JDb.x2.cell,JDb.xp.cell⟩) ?_
 clear hK K
 try simp only[Act.put,sA,sB,sC]
 refine Ze rfl rfl (fun K hK=> ?_)
 go_simp
 refine(Zk8 k (QU s) bs bf n0 (some ⟨b,o,none⟩) m c l _ JDb.xs.cell JDb.xf.cell JDb.ns JDb.size hk).mono ?_
 rintro e w4b ⟨rfl,hb4b⟩
 have J4b:=JDb.behind hb4b
 refine hK.out _ _ (fun _=>⟨J4b.x2.cell,J4b.xp.cell⟩) ?_
 clear hK K
 try simp only[Act.put,sA,sB,sC]
 refine Ze rfl rfl (fun K hK=> ?_)
 rw[HX.out]
 go_simp
 have halb:=(Below.refl _ w4b).alloc lR (.cells #[.int .i64 (k:Int),.int .u8 1,.int .u8 (QU s:Int),.bool x.pv,.int .u64 x.pn] 67)
 have J5b:=J4b.behind halb
 refine hK.out _ _ (fun _=>⟨J5b.x2.cell,J5b.xp.cell⟩) ?_
 clear hK K
 try simp only[Act.put,sA,sB,sC]
 refine Ze rfl rfl (fun K hK=> ?_)
 refine Uw (.tmp 31) (.tmp 37) rfl n0 v7 _ (ls++ [⟨k,0,s,x.lv,x.ln⟩]) rfl J5b.o2 w4b.heap.size ⟨k,1,QU s,x.pv,x.pn⟩ rfl (heap_alloc_new w4b _) (by first|omega|(simp only[List.length_append,List.length_singleton];omega)) J5b.size ?_
 intro A6b c6b w6b HAb
 have z2b:=V9 J5b.x2 (by decide) J5b.o2 HAb.out
 have zpb:=V9 J5b.xp (by decide) J5b.o2 HAb.out
 obtain⟨J7b,K7b,O7b⟩:=J5b.addL HAb.out
 have KBb:=ZdU (YD (((Below.refl _ w7).drew.trans hb4b).trans (halb.mono hb4b.size)) J7a.size) K7b
 have OBb:=(Ua (A:=w7) (((Below.refl _ w7).drew.trans hb4b).trans (halb.mono hb4b.size))).trans O7b
 refine hK.out _ _ (fun _=>⟨z2b.cell,zpb.cell⟩) ?_
 clear hK K
 try simp only[Act.put,sA,sB,sC]
 refine Ze rfl rfl (fun K hK=> ?_)
 have g1:=z2b.cell
 have g2:=z2b.frozen
 go_simp
 refine hK.out _ _ (fun h=>absurd rfl h) ?_
 clear hK K g1 g2
 refine Vf ?_
 clear HAb z2b zpb J5b J4b JDb K7b O7b halb hb4b
 have hle:(ls++ [(⟨k,0,s,x.lv,x.ln⟩:Sp)]).length=ls.length+1:=by simp
 rw[hle] at J7b KBb OBb
 clear hle
 generalize hv8:Value.slice A6b (ls.length+1+1) c6b=v8 at*
 generalize w6b.setCell ⟨b2,0,none⟩ v8=w8 at*
 clear hv8
 gi_wp2
 refine Zu (VU _ _) [0,1,2,3,4,5,6,7] [4,5,6,7] 7 (fun w'=>w'.cell? ⟨b3,0,none⟩=some u∧w'.cell? ⟨bp,0,none⟩=some (.func (.func 75) #[] #[.pointer (some ⟨bs,0,none⟩)])) hmx (by kernel_rfl) (by kernel_rfl) (by kernel_rfl) (by kernel_rfl) ⟨J7b.x3.cell,J7b.xp.cell⟩ ?_
 simp only[steps,sE,sD]
 repeat(first|(refine Zd (v:= ?_) rfl rfl ?_ ?_;rotate_left;(focus(rintro w' ⟨hS0,hS1⟩;go_simp;try with_reducible rfl));simp only[Act.put,sA,sB,sC]))
 have JDd:=J7b.behind ((Below.refl _ w8).drew)
 refine Ze rfl rfl (fun K hK=> ?_)
 go_simp
 refine(ZiC k s bs bf n0 (some ⟨b,o,none⟩) m c l _ JDd.xs.cell JDd.xf.cell JDd.ns JDd.size hk).mono ?_
 rintro e w4d ⟨rfl,hb4d⟩
 have J4d:=JDd.behind hb4d
 refine hK.out _ _ (fun _=>⟨J4d.x3.cell,J4d.xp.cell⟩) ?_
 clear hK K
 try simp only[Act.put,sA,sB,sC]
 refine Ze rfl rfl (fun K hK=> ?_)
 rw[HX.out]
 go_simp
 have hald:=(Below.refl _ w4d).alloc lR (.cells #[.int .i64 (k:Int),.int .u8 2,.int .u8 (s:Int),.bool x.ev,.int .u64 x.en] 67)
 have J5d:=J4d.behind hald
 refine hK.out _ _ (fun _=>⟨J5d.x3.cell,J5d.xp.cell⟩) ?_
 clear hK K
 try simp only[Act.put,sA,sB,sC]
 refine Ze rfl rfl (fun K hK=> ?_)
 refine Uw (.tmp 39) (.tmp 44) rfl n0 u _ (es) rfl J5d.o3 w4d.heap.size ⟨k,2,s,x.ev,x.en⟩ rfl (heap_alloc_new w4d _) (by first|omega|(simp only[List.length_append,List.length_singleton];omega)) J5d.size ?_
 intro A6d c6d w6d HAd
 have z2d:=V9 J5d.x3 (by decide) J5d.o3 HAd.out
 have zpd:=V9 J5d.xp (by decide) J5d.o3 HAd.out
 obtain⟨J7d,K7d,O7d⟩:=J5d.addE HAd.out
 have KBd:=ZdU (YD (((Below.refl _ w8).drew.trans hb4d).trans (hald.mono hb4d.size)) J7b.size) K7d
 have OBd:=(Ua (A:=w8) (((Below.refl _ w8).drew.trans hb4d).trans (hald.mono hb4d.size))).trans O7d
 refine hK.out _ _ (fun _=>⟨z2d.cell,zpd.cell⟩) ?_
 clear hK K
 try simp only[Act.put,sA,sB,sC]
 refine Ze rfl rfl (fun K hK=> ?_)
 have g1:=z2d.cell
 have g2:=z2d.frozen
 go_simp
 refine hK.out _ _ (fun h=>absurd rfl h) ?_
 clear hK K g1 g2
 refine Vf ?_
 clear HAd z2d zpd J5d J4d JDd K7d O7d hald hb4d
 exact⟨(OBa.trans OBb).trans OBd,ZdU (ZdU KBa KBb) KBd,_,_,by rw[HEL.out,HEE.out];exact J7d⟩))
 case done=>(
 rintro D W hD ⟨v,u,hJ⟩ hK
 rw[ZeQ hc,ZeR hc] at hJ
 obtain⟨Av,cv,rfl⟩:=ZJ hJ.o2
 obtain⟨Au,cu,rfl⟩:=ZJ hJ.o3
 clear c1 c2 c3 d1 d2 d3 f2 f3 k3 yi J0 hr
 gi_wp2
 refine Zu (VV _) [0,1,2,3] [2,3] 3 (fun w'=>w'.cell? ⟨w.heap.size+1,0,none⟩=some (.slice Av (labB l).length cv)∧w'.cell? ⟨w.heap.size+1+1,0,none⟩=some (.slice Au (effB l).length cu)) hmx (by kernel_rfl) (by kernel_rfl) (by kernel_rfl) (by kernel_rfl) ⟨hJ.x2.cell,hJ.x3.cell⟩ ?_
 simp only[steps,sE,sD]
 repeat(first|(refine Zd (v:= ?_) rfl rfl ?_ ?_;rotate_left;(focus(rintro w' ⟨hS0,hS1⟩;go_simp;try with_reducible rfl));simp only[Act.put,sA,sB,sC]))
 have hJd:=hJ.behind ((Below.refl _ W).drew)
 have hKd:W.drew.heap[D]?=some (.deferred (some [])):=hK
 clear hJ hK
 generalize W.drew=Wd at*
 have g2:=hJd.x2.cell
 have g3:=hJd.x2.frozen
 refine Ze rfl rfl (fun K hK=> ?_)
 go_simp
 have hJ2:=hJd.keep (CK.again hJd.x2 hJd.lo2)
 have hK2:=(KeepsOthers.setCell Wd ⟨w.heap.size+1,0,none⟩ (.slice Av (labB l).length cv)).same D _ hKd rfl
 refine hK.out _ _ (fun _=>⟨hJ2.x2.cell,hJ2.x3.cell⟩) ?_
 clear hK K hJd hKd g2 g3
 generalize Wd.setCell ⟨w.heap.size+1,0,none⟩ (.slice Av (labB l).length cv)=We at*
 try simp only[Act.put,sA,sB,sC]
 have g2:=hJ2.x3.cell
 have g3:=hJ2.x3.frozen
 refine Ze rfl rfl (fun K hK=> ?_)
 go_simp
 have hJ3:=hJ2.keep (CK.again hJ2.x3 hJ2.lo3)
 have hK3:=(KeepsOthers.setCell We ⟨w.heap.size+1+1,0,none⟩ (.slice Au (effB l).length cu)).same D _ hK2 rfl
 refine hK.out _ _ (fun h=>absurd rfl h) ?_
 clear hK K hJ2 hK2 g2 g3
 generalize We.setCell ⟨w.heap.size+1+1,0,none⟩ (.slice Au (effB l).length cu)=Wf at*
 refine Vf ?_
 gi_wp2
 refine⟨by simp,.inl ⟨_,_,rfl,run_takeDeferred hK3,?_⟩⟩
 have hJ4:=hJ3.keep (CK.of_grown (B:=w.heap.size) (grownBy_putObj' Wf D (.deferred none)) (fun r e=>by cases e;exact⟨by omega,_,hK3,rfl⟩) lR hJ3.size)
 have g2:=hJ4.x2.cell
 have g3:=hJ4.x3.cell
 refine⟨.tuple #[(.slice Av (labB l).length cv),(.slice Au (effB l).length cu)],?_,_,_,rfl,hJ4.o2,hJ4.o3,hJ4.ap,hJ4.bel⟩
 simp[results,Tryz.f45,go_sem,g2,g3]))
 ·(
 have hne:((ZI l:Int) !=0)=true:=by simp;omega
 have HL:Hid (labB l= []∧effB l= []):=Hd (by unfold labB effB;rw[if_neg hc,if_neg hc];exact⟨rfl,rfl⟩)
 have c2':=c2.set (.slice none 0 0)
 have c3':=c3.other (B':=w.heap.size+1) (by omega) (.slice none 0 0)
 have e3:=c3'.cell
 have e4:=c3'.frozen
 gi_wp2_with fail
 have g3:=(c3'.set (.slice none 0 0)).cell
 have g2:=(c2'.other (B':=w.heap.size+1+1) (by omega) (.slice none 0 0)).cell
 have hbel:=(k3.setCell (p:=⟨w.heap.size+1,0,none⟩) (by simp) (.slice none 0 0)).setCell (p:=⟨w.heap.size+1+1,0,none⟩) (by simp;omega) (.slice none 0 0)
 refine⟨.tuple #[.slice none 0 0,.slice none 0 0],?_,_,_,rfl,?_⟩
 ·simp[results,Tryz.f45,go_sem,g2,g3]
 ·rw[HL.out.1,HL.out.2]
  exact⟨World.ownsRow_nil _ _ _ _,World.ownsRow_nil _ _ _ _,(fun _ e=>by cases e),hbel⟩)
theorem ZeS (A:Option Addr)(m c:Nat)(l:List Nd)(w:World)(hr:Ns w w.heap.size A m c l)(hf: ∀x∈l,x.Fits):
  Calls Tryz.prog 45 #[.slice A m c] w fun e w'=> ∃v u,e= .returned (.tuple #[v,u])∧Told w w' v u (labB l) (effB l):=
 callsIn_wide.1 (ZjJ A m c l w hr hf)
end Go.Proofs.YtmejhedegmjboaaGreat
