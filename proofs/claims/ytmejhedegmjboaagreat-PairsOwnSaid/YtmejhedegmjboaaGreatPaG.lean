/- What merge tells: classes that are one with one that goes both, and the others. Condition: slices can be read; what tells of a class does so in every world behind. -/
import Derived.Test.YtmejhedegmjboaaGreatPaK
namespace Go.Proofs.YtmejhedegmjboaaGreat.I
open Go.RowKit PaC
attribute [local go_sem] Oper.semAt_some
abbrev Tk:=Nat→Nat×ByteArray
def hmP (tk:Tk):List Nat→Nat×ByteArray→Option Nat:=fun vs=>vs.foldl (fun g b=>putF g (tk b) b) (fun _=>none)
theorem hmP_next (tk:Tk)(vs:List Nat)(b:Nat):hmP tk (vs++ [b])=putF (hmP tk vs) (tk b) b:=by unfold hmP;rw[List.foldl_append];rfl
theorem hmP_all (tk:Tk)(dl:List Nat):hmP tk dl.reverse=fun key=>dl.find? fun b=>decide (tk b=key):=by
 funext key
 induction dl with
 |nil=>rfl
 |cons b dl ih=>
  rw[List.reverse_cons,hmP_next,List.find?_cons]
  by_cases e:key=tk b
  ·rw[e,putF_same,decide_eq_true rfl]
  ·rw[putF_other e,decide_eq_false (Ne.symm e),ih]
def mgL (tk:Tk)(dl:List Nat)(x:Nat):Option Nat:=dl.find? fun b=>decide (tk b=tk x)
def stL (tk:Tk)(dl:List Nat)(L:List Nat)(x:Nat):List Nat:=match mgL tk dl x with
 |some b=>L.set x b
 |none=>L
theorem stL_len (tk:Tk)(dl L:List Nat)(x:Nat):(stL tk dl L x).length=L.length:=by
 unfold stL
 split
 ·rw[List.length_set]
 ·rfl
def stA (tk:Tk)(dl L cl:List Nat):List Nat:=cl.foldl (stL tk dl) L
theorem stA_len (tk:Tk)(dl:List Nat): ∀(cl L:List Nat),(stA tk dl L cl).length=L.length
 | [],_=>rfl
 |x::cl,L=>by
  show(stA tk dl (stL tk dl L x) cl).length=_
  rw[stA_len tk dl cl,stL_len]
theorem stA_next {tk:Tk}{dl L cl:List Nat}{k:Nat}(h:k < cl.length):stA tk dl L (cl.take (k+1))=stL tk dl (stA tk dl L (cl.take k)) cl[k]:=by
 unfold stA
 rw[List.take_succ_eq_append_getElem h,List.foldl_append]
 rfl
def otL (tk:Tk)(dl cl:List Nat):List Nat:=cl.filter fun x=>(mgL tk dl x).isNone
theorem otL_some {tk:Tk}{dl cl:List Nat}{k b:Nat}(h:k < cl.length)(e:mgL tk dl cl[k]=some b):otL tk dl (cl.take (k+1))=otL tk dl (cl.take k):=by
 unfold otL
 rw[List.take_succ_eq_append_getElem h,List.filter_append,List.filter_cons_of_neg (by rw[e];simp),List.filter_nil,List.append_nil]
theorem otL_none {tk:Tk}{dl cl:List Nat}{k:Nat}(h:k < cl.length)(e:mgL tk dl cl[k]=none):otL tk dl (cl.take (k+1))=otL tk dl (cl.take k)++ [cl[k]]:=by
 unfold otL
 rw[List.take_succ_eq_append_getElem h,List.filter_append,List.filter_cons_of_pos (by rw[e];rfl),List.filter_nil]
theorem otL_le (tk:Tk)(dl cl:List Nat)(k:Nat):(otL tk dl (cl.take k)).length≤cl.length:=by
 unfold otL
 have h1:=List.length_filter_le (fun x=>(mgL tk dl x).isNone) (cl.take k)
 have h2:=List.length_take_le k cl
 rw[List.length_take] at h1
 omega
theorem wpListIn_append_i {F:Fence}{nF:Nat}(hF:Open F Tryz.prog){w:World}{ops:Array Oper}{rest:List Oper}{o:Oper}{a:Act}{Q:Exit→Act→World→Prop}(hgd:o.guard=none)(s x:Operand)
  (ho:o.op= .call {callee:= .builtin .append,args:= #[s,x],argTypes:= #[82,82]})
  (base:Nat) (v:Value) (n:Nat) (vs:List Nat) (hs:a.eval s=v) (hown:w.ownsRow base 3 1 v n (vs.flatMap en3)) (B:Nat) (A:Option Addr) (m c:Nat) (ms:List Nat) (hx:a.eval x= .slice A m c) (hr:Rs en3 1 w B A m c ms)
  (hsm:n+m≤100000) (hbase:base≤w.heap.size)
  (h: ∀A' k c' w',Hid (k=n+m)→Hid (Appended w w' base 3 1 v (.slice A' k c') k ((vs++ms).flatMap en3))→wpListIn F nF Tryz.prog ops Q rest (a.put o.dst (.slice A' k c')) w'):wpListIn F nF Tryz.prog ops Q (o::rest) a w:=
 wpListIn_plain hgd fun _ hK=>oper_in hF (by rw[ho];intro c e;cases e) (Bo.op_append en3_len (by decide) en3_one Tryz.underlying82 en3_inf rfl (by decide) s x ho base v n vs hs hown B A m c ms hx hr hsm hbase fun A' k c' w' g1 g2=>hK _ _ (h A' k c' w' g1 g2))
theorem bwd_in (nn:Nat)(A:Option Addr)(m c:Nat)(w:World):
  CallsIn Fence.wide nn Tryz.prog 129 #[.slice A m c] w fun e w'=>e= .returned (.func (.func 155) #[] #[.pointer (some ⟨w.heap.size,0,none⟩)])∧w'=w.alloc (.cells #[.slice A m c] 82):=by
 refine callsIn_of_wp Tryz.func129 rfl trivial ?_ rfl
 simp only[Tryz.ntmps129,List.size_toArray,List.length_cons,List.length_nil,Nat.reduceAdd,Nat.reduceSub,Array.replicate_succ,Array.replicate_zero,List.push_toArray,List.append_toArray,List.nil_append,List.cons_append]
 gi_wp2
 go_ret
 exact⟨rfl,rfl⟩
def Shows (D:Nat→Prop)(w:World)(A:Option Addr)(n:Nat)(b o:Nat)(l:List Nat):Prop:=
 l.length=n∧(0 < n→A=some ⟨b,o,none⟩)∧ ∀W,Kept D w W→ ∀k (h:k < l.length),W.cell? ⟨b,o+k,none⟩=some (.int .i64 (l[k]:Int))
theorem Shows.of {D:Nat→Prop}{w:World}{A:Option Addr}{n c:Nat}{l:List Nat}(h:Rd nmI w w.heap.size A n c l)(hD: ∀b o,A=some ⟨b,o,none⟩→ ¬D b): ∃b o,Shows D w A n b o l:=by
 by_cases hn:0 < n
 ·obtain⟨b,o,e,hb,hc⟩:=h.spot hn
  exact⟨b,o,h.len,fun _=>e,fun W hW k hk=>(hW.cell (p:=⟨b,o+k,none⟩) hb (hD b o e)).trans (hc k hk)⟩
 ·exact⟨0,0,h.len,fun e=>absurd e hn,fun W _ k hk=>by have:=h.len;omega⟩
theorem own_same {w w':World}{base sz n:Nat}{e:TypeId}{v:Value}{xs:List Value}(h:w.ownsRow base e sz v n xs)(hq: ∀q,v.ownBlock=some q→w'.heap[q]?=w.heap[q]?):w'.ownsRow base e sz v n xs:=by
 refine⟨h.1,?_⟩
 rcases h.2 with hn|⟨g,cap,cur,rfl,hg,hgg,r⟩
 ·exact .inl hn
 ·exact .inr ⟨g,cap,cur,rfl,hg,(hq g rfl).trans hgg,r⟩
theorem Kept.then_below {D:Nat→Prop}{a w w':World}(h:Kept D a w)(hb:Below a.heap.size w w'):Kept D a w':=
 ⟨hb.os.trans h.os,hb.tape.trans h.tape,hb.output.trans h.output,Nat.le_trans h.size hb.size,fun b hl hn=>(hb.block b hl).trans (h.block b hl hn)⟩
structure Mg2 (D:Nat→Prop)(tk:Tk)(dl L cl:List Nat)(base:Nat)(O:Option Addr)(no co:Nat)(W2:World)(k:Nat)(A:Option Addr)(N c:Nat)(wr:World):Prop where
 o:wr.ownsRow W2.heap.size 3 1 (.slice A N c) N ((otL tk dl (cl.take k)).flatMap en3)
 l:wr.ownsRow base 3 1 (.slice O no co) no ((stA tk dl L (cl.take k)).flatMap en3)
 k:Kept D W2 wr
section
variable {D:Nat→Prop} {tk:Tk} {dl L cl:List Nat} {base:Nat} {O:Option Addr} {no co:Nat} {W2:World} {k:Nat} {A:Option Addr} {N c:Nat} {wr w':World}
theorem Mg2.behind (h:Mg2 D tk dl L cl base O no co W2 k A N c wr)(hb:Below wr.heap.size wr w'):Mg2 D tk dl L cl base O no co W2 k A N c w':=
 ⟨own_behind h.o hb,own_behind h.l hb,h.k.trans (Kept.of_below hb)⟩
theorem Mg2.add (h:Mg2 D tk dl L cl base O no co W2 k A N c wr)(hgo: ∀q,(Value.slice O no co).ownBlock=some q→q < W2.heap.size){A':Option Addr}{N' c':Nat}(hk:k < cl.length)(hn:mgL tk dl cl[k]=none)
  (ha:Appended wr w' W2.heap.size 3 1 (.slice A N c) (.slice A' N' c') N' ((otL tk dl (cl.take k)++ [cl[k]]).flatMap en3)):Mg2 D tk dl L cl base O no co W2 (k+1) A' N' c' w':=by
 have hb:Below W2.heap.size wr w':=(Below.refl _ _).grown ha.grown h.k.size fun j hj=>(h.o.lt j hj).1
 refine⟨by rw[otL_none hk hn];exact ha.own,?_,Kept.then_below h.k hb⟩
 rw[stA_next hk,stL,hn]
 exact own_same h.l fun q hq=>hb.block q (hgo q hq)
theorem Mg2.set (h:Mg2 D tk dl L cl base O no co W2 k A N c wr)(hgo: ∀q,(Value.slice O no co).ownBlock=some q→q < W2.heap.size)(hD: ∀q,D q↔(Value.slice O no co).ownBlock=some q)(hk:k < cl.length){b:Nat}(hn:mgL tk dl cl[k]=some b)(hx:cl[k] < L.length):
  ∃g,O=some ⟨g,0,none⟩∧(∃u:Value,wr.cell? ⟨g,cl[k],none⟩=some u)∧wr.frozen? ⟨g,cl[k],none⟩=false∧Mg2 D tk dl L cl base O no co W2 (k+1) A N c (wr.setCell ⟨g,cl[k],none⟩ (.int .i64 (b:Int))):=by
 obtain⟨g,rfl,h1,h2,h3,h4,h5⟩:=own_stI h.l (i:=cl[k]) (by rw[stA_len];exact hx)
 have hg:(Value.slice (some ⟨g,0,none⟩) no co).ownBlock=some g:=rfl
 refine⟨g,rfl,⟨_,h3⟩,h4,?_,?_,h.k.setCell (p:=⟨g,cl[k],none⟩) (.inl ((hD g).2 hg)) _⟩
 ·rw[otL_some hk hn]
  refine own_same h.o fun q hq=>Below.heap_setCell _ _ _ q ?_
  have:=(h.o.lt q hq).1
  have:=hgo g hg
  show q≠g
  omega
 ·rw[stA_next hk,stL,hn]
  exact h5 b
end
structure MgI (tk:Tk)(n₀ bm:Nat)(w5:World)(pre:List Nat)(W:World):Prop where
 k:KpM n₀ w5 W
 m:MapHas enT 210 3 .i64 W bm pre.length (hmP tk pre)
theorem MgI.behind {tk:Tk}{n₀ bm:Nat}{w5 W W':World}{pre:List Nat}(h:MgI tk n₀ bm w5 pre W)(hb:Below W.heap.size W W')(hn:n₀≤W.heap.size):MgI tk n₀ bm w5 pre W':=
 ⟨h.k.trans (KpM.behind hb hn),h.m.below hb⟩
theorem KpM.map {n₀ bm m:Nat}{w w':World}{f:Nat×ByteArray→Option Nat}(hm:MapHas enT 210 3 .i64 w bm m f)(hg:w.grownBy w' (some bm))(h1:n₀≤bm)(h2:n₀≤w.heap.size):KpM n₀ w w':=
 ⟨(Below.refl n₀ w).grown hg h2 fun k e=>by cases e;exact h1,fun b cs t z hb=>(hg.block b (lt_blk hb) fun e=>hm.notCells hb (by injection e)).trans hb⟩
theorem MgI.grow {tk:Tk}{n₀ bm B:Nat}{w5 W W':World}{pre:List Nat}{row:Option Nat}(h:MgI tk n₀ bm w5 pre W)(hg:W.grownBy W' row)(hr: ∀r,row=some r→B≤r∧ ∃o:Obj,W.heap[r]?=some o∧o.isCells=false)(hB:n₀≤B)(hb:bm < B)(hs:n₀≤W.heap.size):MgI tk n₀ bm w5 pre W':=
 ⟨h.k.trans (KpM.of_grown hg hr hB hs),h.m.move (hg.block _ h.m.lt fun e=>by have:=(hr _ e.symm).1;omega)⟩
set_option maxRecDepth 100000 in
set_option maxHeartbeats 8000000 in
theorem merge_wide88 (base:Nat)(tk:Tk)(v:Value)(A1:Option Addr)(n1 c1:Nat)(A2:Option Addr)(n2 c2:Nat)(A3:Option Addr)(n3 c3:Nat)(A4:Option Addr)(n4 c4:Nat)(F:Option Addr)(nf cf:Nat)(X:Option Addr)(nx cx:Nat)(V:Option Addr)(nv cv:Nat)(O:Option Addr)(no co:Nat)(AC:Option Addr)(nC cC:Nat)(AD:Option Addr)(nD cD:Nat)(cl dl L:List Nat)(w:World)
  (hO:w.ownsRow base 3 1 (.slice O no co) no (L.flatMap en3)) (hC:Rd nmI w w.heap.size AC nC cC cl) (hCo: ∀b o,AC=some ⟨b,o,none⟩→ ¬(Value.slice O no co).ownBlock=some b)
  (hD:Rd nmI w w.heap.size AD nD cD dl) (hDo: ∀b o,AD=some ⟨b,o,none⟩→ ¬(Value.slice O no co).ownBlock=some b) (hcl: ∀x∈cl,x < L.length) (hdb: ∀x∈dl,x≤1000000) (hnC:nC≤400) (hnD:nD≤400) (hL:L.length≤400)
  (htk: ∀x,x∈cl∨x∈dl→(tk x).1 < 18446744073709551616∧(tk x).2.size≤maxLen)
  (hof: ∀W,Kept (fun b=>(Value.slice O no co).ownBlock=some b) w W→ ∀x,x∈cl∨x∈dl→Calls Tryz.prog 88 #[tdV v A1 n1 c1 A2 n2 c2 A3 n3 c3 A4 n4 c4 F nf cf X nx cx V nv cv O no co,.int .i64 (x:Int)] W fun e w'=>e= .returned (enT (tk x))∧Below W.heap.size W w'):
  CallsIn Fence.wide 6 Tryz.prog 87 #[tdV v A1 n1 c1 A2 n2 c2 A3 n3 c3 A4 n4 c4 F nf cf X nx cx V nv cv O no co,.slice AC nC cC,.slice AD nD cD,.func (.func 88) #[tdV v A1 n1 c1 A2 n2 c2 A3 n3 c3 A4 n4 c4 F nf cf X nx cx V nv cv O no co] #[]] w fun e w'=> ∃A N c,e= .returned (.slice A N c)∧w'.ownsRow w.heap.size 3 1 (.slice A N c) N ((otL tk dl cl).flatMap en3)∧
   w'.ownsRow base 3 1 (.slice O no co) no ((stA tk dl L cl).flatMap en3)∧Kept (fun b=>(Value.slice O no co).ownBlock=some b) w w':=by
 obtain⟨bC,oC,hsC⟩:=Shows.of hC hCo
 obtain⟨bD,oD,hsD⟩:=Shows.of hD hDo
 have HOF:=Lib.hid hof
 have HTK:=Lib.hid htk
 have HCL:=Lib.hid hcl
 have HDB:=Lib.hid hdb
 have HNC:=Lib.hid hnC
 have HND:=Lib.hid hnD
 have HL:=Lib.hid hL
 have HSC:=Lib.hid hsC
 have HSD:=Lib.hid hsD
 have HO:=Lib.hid hO
 have hmm:= @run_makeMap Tryz.prog
 have hcD:=Nat.le_trans hC.cap hC.top
 have hown:=fun q e=>(hO.lt q e).2
 have HGO:=Lib.hid hown
 obtain⟨D,hD'⟩: ∃D:Nat→Prop,(fun b=>(Value.slice O no co).ownBlock=some b)=D:=⟨_,rfl⟩
 rw[hD'] at HOF HSC HSD ⊢
 have HDD:Hid (∀b,D b↔(Value.slice O no co).ownBlock=some b):=Lib.hid fun b=>by rw[← hD']
 clear hO hC hCo hD hDo hcl hdb hnC hnD hL htk hof hsC hsD hD' hown
 unfold tdV at HOF ⊢
 refine callsIn_of_wp_marks Tryz.func87 rfl trivial ?_ rfl
 simp only[Tryz.ntmps87,List.size_toArray,List.length_cons,List.length_nil,Nat.reduceAdd,Nat.reduceSub,Array.replicate_succ,Array.replicate_zero,List.push_toArray,List.append_toArray,List.nil_append,List.cons_append]
 gi_wp2_with fail
 obtain⟨w4,hw4⟩: ∃w4,(((w.alloc (.cells #[v,.slice A1 n1 c1,.slice A2 n2 c2,.slice A3 n3 c3,.slice A4 n4 c4,.slice F nf cf,.slice X nx cx,.slice V nv cv,.slice O no co] 108)).alloc (.cells #[.func (.func 88) #[.agg #[v,.slice A1 n1 c1,.slice A2 n2 c2,.slice A3 n3 c3,.slice A4 n4 c4,.slice F nf cf,.slice X nx cx,.slice V nv cv,.slice O no co]] #[]] 165)).alloc (.map #[] 0)).alloc (.cells #[.map (some (w.heap.size+1+1))] 205)=w4:=⟨_,rfl⟩
 have hfacts:w4.heap.size=w.heap.size+4∧w4.heap[w.heap.size]?=some (.cells #[v,.slice A1 n1 c1,.slice A2 n2 c2,.slice A3 n3 c3,.slice A4 n4 c4,.slice F nf cf,.slice X nx cx,.slice V nv cv,.slice O no co] 108 (0,0))∧w4.heap[w.heap.size+1]?=some (.cells #[.func (.func 88) #[.agg #[v,.slice A1 n1 c1,.slice A2 n2 c2,.slice A3 n3 c3,.slice A4 n4 c4,.slice F nf cf,.slice X nx cx,.slice V nv cv,.slice O no co]] #[]] 165 (0,0))∧MapHas enT 210 3 .i64 w4 (w.heap.size+1+1) 0 (fun _=>none)∧w4.heap[w.heap.size+1+1+1]?=some (.cells #[.map (some (w.heap.size+1+1))] 205 (0,0))∧Below w.heap.size w w4:=by
  obtain⟨x,hx⟩: ∃x,w.alloc (.cells #[v,.slice A1 n1 c1,.slice A2 n2 c2,.slice A3 n3 c3,.slice A4 n4 c4,.slice F nf cf,.slice X nx cx,.slice V nv cv,.slice O no co] 108)=x:=⟨_,rfl⟩
  obtain⟨y,hy⟩: ∃y,x.alloc (.cells #[.func (.func 88) #[.agg #[v,.slice A1 n1 c1,.slice A2 n2 c2,.slice A3 n3 c3,.slice A4 n4 c4,.slice F nf cf,.slice X nx cx,.slice V nv cv,.slice O no co]] #[]] 165)=y:=⟨_,rfl⟩
  obtain⟨u,hu⟩: ∃u,y.alloc (.map #[] 0)=u:=⟨_,rfl⟩
  rw[hx,hy,hu] at hw4
  have sx:x.heap.size=w.heap.size+1:=by rw[← hx,World.size_alloc]
  have sy:y.heap.size=w.heap.size+1+1:=by rw[← hy,World.size_alloc,sx]
  have su:u.heap.size=w.heap.size+1+1+1:=by rw[← hu,World.size_alloc,sy]
  have b0:Below w.heap.size w x:=hx▸(Below.refl _ _).alloc (Nat.le_refl _) _
  have b1:Below x.heap.size x y:=hy▸(Below.refl _ _).alloc (Nat.le_refl _) _
  have b2:Below y.heap.size y u:=hu▸(Below.refl _ _).alloc (Nat.le_refl _) _
  have b3:Below u.heap.size u w4:=hw4▸(Below.refl _ _).alloc (Nat.le_refl _) _
  have k0:x.heap[w.heap.size]?=some (.cells #[v,.slice A1 n1 c1,.slice A2 n2 c2,.slice A3 n3 c3,.slice A4 n4 c4,.slice F nf cf,.slice X nx cx,.slice V nv cv,.slice O no co] 108 (0,0)):=hx▸heap_alloc_new w _
  have k1:y.heap[w.heap.size+1]?=some (.cells #[.func (.func 88) #[.agg #[v,.slice A1 n1 c1,.slice A2 n2 c2,.slice A3 n3 c3,.slice A4 n4 c4,.slice F nf cf,.slice X nx cx,.slice V nv cv,.slice O no co]] #[]] 165 (0,0)):=by rw[← sx, ← hy];exact heap_alloc_new x _
  have k2:MapHas enT 210 3 .i64 u (w.heap.size+1+1) 0 (fun _=>none):=by rw[← sy, ← hu];exact MapHas.made y
  have k3:w4.heap[w.heap.size+1+1+1]?=some (.cells #[.map (some (w.heap.size+1+1))] 205 (0,0)):=by rw[← su, ← hw4];exact heap_alloc_new u _
  refine⟨by rw[← hw4,World.size_alloc,su],?_,?_,k2.below b3,k3,?_⟩
  ·exact(b3.block _ (by omega)).trans ((b2.block _ (by omega)).trans ((b1.block _ (by omega)).trans k0))
  ·exact(b3.block _ (by omega)).trans ((b2.block _ (by omega)).trans k1)
  ·exact b0.trans ((b1.trans ((b2.trans (b3.mono b2.size)).mono b1.size)).mono b0.size)
 obtain⟨s4,k0,k1,k2,k3,b4⟩:=hfacts
 obtain⟨bo,hbo⟩: ∃b,w.heap.size+1=b:=⟨_,rfl⟩
 obtain⟨bm,hbm⟩: ∃b,bo+1=b:=⟨_,rfl⟩
 obtain⟨bx,hbx⟩: ∃b,bm+1=b:=⟨_,rfl⟩
 simp only[hbo,hbm,hbx] at k1 k2 k3 hw4 ⊢
 generalize hwd:World.alloc (World.alloc (World.alloc (World.alloc _ _) _) _) _=wd'
 obtain rfl:w4=wd':=hw4.symm.trans hwd
 clear hwd
 refine⟨trivial,(bwd_in _ AD nD cD _).mono ?_⟩
 rintro e w5 ⟨rfl,rfl⟩
 have hal:Below w4.heap.size w4 (w4.alloc (.cells #[.slice AD nD cD] 82)):=(Below.refl _ _).alloc (Nat.le_refl _) _
 have s5:(w4.alloc (.cells #[.slice AD nD cD] 82)).heap.size=w4.heap.size+1:=World.size_alloc _ _
 have k4:=heap_alloc_new w4 (.cells #[.slice AD nD cD] 82)
 replace k0:=(hal.block _ (lt_blk k0)).trans k0
 replace k1:=(hal.block _ (lt_blk k1)).trans k1
 replace k3:=(hal.block _ (lt_blk k3)).trans k3
 replace k2:=k2.below hal
 replace b4:=b4.trans (hal.mono b4.size)
 clear hal
 gi_wp2_with fail
 clear hw4 hmm
 generalize w4.alloc (.cells #[.slice AD nD cD] 82)=w5 at*
 rw[s4] at k4
 have HK0:=Lib.hid k0
 have HK1:=Lib.hid k1
 have HK3:=Lib.hid k3
 have HB4:=Lib.hid b4
 have HS5:Hid (w5.heap.size=w.heap.size+5∧bo=w.heap.size+1∧bm=w.heap.size+2∧bx=w.heap.size+3):=Lib.hid (by omega)
 have hmx:Tryz.prog.follows .mixedOrders=true:=by kernel_rfl
 have h0:MgI tk w.heap.size bm w5 [] w5:=⟨KpM.refl _ _,k2⟩
 have hks:Kept D w w5:=Kept.of_below b4
 have hseq:=bwd_comes (6 - 1) (w.heap.size+4) w.heap.size bD oD nD cD dl HSD.out.1 w5 (by have:=HND.out;omega) AD HSD.out.2.1 ((cell_blk (i:=0) k4).trans rfl) (HSD.out.2.2 w5 hks)
 have HN0:Hid (w.heap.size≤w5.heap.size):=Lib.hid b4.size
 clear k0 k1 k2 k3 k4 b4 s4 s5 hbo hbm hbx
 refine range_put (gf:=155) (lb:= #[.pointer (some ⟨w.heap.size+4,0,none⟩)]) rfl (enters_of Tryz.func155 (by kernel_rfl) rfl) hseq
  KpM.trans (fun W l' o o' h1 h2 h3=>KpM.put HN0.out W l' o o' h1 h2 h3) (fun {A B} h=>by cases h;exact KeepsFrom.refl _ _) (fun _=>rfl)
  (fun pre W=>MgI tk w.heap.size bm w5 (pre.map fun x=>dl[x.val]) W)
  (fun pre W W' row hs hg hrow=>hs.grow hg hrow HN0.out (by have:=HS5.out;omega) (Nat.le_trans HN0.out hs.k.bel.size))
  (fun pre W W' hs hst=>by cases hst;exact hs)
  h0 ?a1 ?assign ?body ?done
 case assign=>
  intro yl x W K hK
  unfold bwA
  gi_wp2
  exact hK
 case body=>
  rintro yl pre x W hI hlen
  have hbm:dl[x.val]∈dl:=List.getElem_mem _
  have HMAP:Hid ((pre++ [x]).map (fun x:Fin dl.length=>dl[x.val])=pre.map (fun x=>dl[x.val])++ [dl[x.val]]):=Lib.hid (by simp)
  have hl9:(pre.map (fun x:Fin dl.length=>dl[x.val])).length≤400:=by
   rw[List.length_map]
   have h1:=HND.out
   have h2:=HSD.out.1
   simp[bwY] at hlen
   omega
  generalize pre.map (fun x:Fin dl.length=>dl[x.val])=ps at*
  show Code.wpIn _ _ _ _ _ _ W
  generalize dl[x.val]=bv at*
  have HBV:=Lib.hid hbm
  have HI:=Lib.hid hI
  have kx:=hI.k.cell ((cell_blk (i:=0) HK3.out).trans rfl)
  have ko:=hI.k.cell ((cell_blk (i:=0) HK1.out).trans rfl)
  have HKX:=Lib.hid kx
  have HKO:=Lib.hid ko
  clear hbm hI hlen hseq h0 hks
  gi_wp2
  refine wpIn_region_ord (open_round _ _) [0,1,2,4,3,5] [3,5] 5 (fun w'=>w'.cell? ⟨bx,0,none⟩=some (.map (some bm))∧w'.cell? ⟨bo,0,none⟩=some (.func (.func 88) #[.agg #[v,.slice A1 n1 c1,.slice A2 n2 c2,.slice A3 n3 c3,.slice A4 n4 c4,.slice F nf cf,.slice X nx cx,.slice V nv cv,.slice O no co]] #[])) hmx (by kernel_rfl) (by kernel_rfl) (by kernel_rfl) (by kernel_rfl) ⟨kx,ko⟩ ?_
  simp only[steps,List.getElem?_cons_zero,List.getElem?_cons_succ]
  clear kx ko
  repeat(first
   |(refine ord_no rfl ?_;simp only[Act.put,List.setIfInBounds_toArray,List.set_cons_zero,List.set_cons_succ])
   |(refine ord_yes (v:= ?_) rfl rfl ?_ ?_;rotate_left;(focus(rintro w' ⟨x0,x1⟩;go_simp;try with_reducible rfl));simp only[Act.put,List.setIfInBounds_toArray,List.set_cons_zero,List.set_cons_succ]))
  have HNW:Hid (w.heap.size≤W.heap.size):=Lib.hid (Nat.le_trans HN0.out HI.out.k.bel.size)
  have HID:=Lib.hid (HI.out.behind ((Below.refl W.heap.size W).drew) HNW.out)
  have HWD:=Lib.hid ((Below.refl W.heap.size W).drew)
  generalize World.drew _=wd at*
  refine ord_hard rfl rfl (fun K hK=> ?_)
  go_simp
  refine(HOF.out wd (Kept.of_below (HB4.out.trans HID.out.k.bel)) bv (.inr HBV.out)).mono ?_
  rintro e w6 ⟨rfl,hv⟩
  have HI6:=Lib.hid (HID.out.behind hv (Nat.le_trans HNW.out HWD.out.size))
  have HW6:=Lib.hid (HWD.out.trans (hv.mono HWD.out.size))
  refine hK.out _ _ (fun _=>⟨HI6.out.k.cell ((cell_blk (i:=0) HK3.out).trans rfl),HI6.out.k.cell ((cell_blk (i:=0) HK1.out).trans rfl)⟩) ?_
  clear hK K hv HID HWD
  try simp only[Act.put,List.setIfInBounds_toArray,List.set_cons_zero,List.set_cons_succ]
  have hkey:=keyT (x:=tk bv) (HTK.out bv (.inr HBV.out)).1 (HTK.out bv (.inr HBV.out)).2
  have hwf:(Lit.int .i64 (bv:Int)).wf=true:=wf_i64 (HDB.out bv HBV.out)
  refine ord_hard rfl rfl (fun K hK=> ?_)
  refine op_put (.tmp 21) (.tmp 24) (.tmp 25) 205 rfl lawT Tryz.underlying205 Tryz.underlying3 enT_inj HI6.out.m rfl (tk bv) rfl hkey bv rfl hwf (by unfold maxLen;omega) ?_
  intro w7 hm7 hg7
  have HM7:=Lib.hid hm7
  have HKP:=Lib.hid (KpM.map (n₀:=w.heap.size) HI6.out.m hg7 (by have:=HS5.out;omega) (Nat.le_trans HNW.out HW6.out.size))
  have HKF:Hid (KeepsFrom w5.heap.size W w7):=Lib.hid ((KeepsFrom.of_grownBy (B:=w5.heap.size) (row:=none) ⟨HW6.out.os,HW6.out.tape,HW6.out.output,HW6.out.size,fun k hk _=>HW6.out.block k hk⟩ (fun j e=>by cases e)).trans (KeepsFrom.of_grownBy hg7 fun j e=>by cases e;have:=HS5.out;omega))
  refine hK.out _ _ (fun h=>absurd rfl h) ?_
  clear hK K hm7 hg7 hkey hwf
  try simp only[Act.put]
  refine ord_endT ?_
  refine⟨HKF.out,(KpM.behind HW6.out HNW.out).trans HKP.out,?_⟩
  show MgI tk w.heap.size bm w5 ((pre++ [x]).map fun x=>dl[x.val]) w7
  rw[HMAP.out]
  exact⟨HI6.out.k.trans HKP.out,by rw[List.length_append,List.length_singleton,hmP_next];exact HM7.out⟩
 case done=>
  rintro Dd W2 hDd hI hKD
  replace hI:MgI tk w.heap.size bm w5 dl.reverse W2:=by
   have h:MgI tk w.heap.size bm w5 ((bwY dl.length).map fun x=>dl[x.val]) W2:=hI
   rw[bwY_vals] at h
   exact h
  have hb2:Below w.heap.size w W2:=HB4.out.trans hI.k.bel
  have HGO2:Hid (∀q,(Value.slice O no co).ownBlock=some q→q < W2.heap.size):=Lib.hid fun q hq=>Nat.lt_of_lt_of_le (HGO.out q hq) hb2.size
  have HKW2:Hid (Kept D w W2):=Lib.hid (Kept.of_below hb2)
  have HND2:Hid (∀q,w.heap.size≤q→ ¬D q):=Lib.hid fun q hq hd=>by have:=HGO.out q ((HDD.out q).1 hd);omega
  have HMAP:Hid (MapHas enT 210 3 .i64 W2 bm dl.reverse.length (fun key=>dl.find? fun b=>decide (tk b=key))):=Lib.hid (by rw[← hmP_all];exact hI.m)
  have HC0:=Lib.hid (hI.k.keep _ _ _ _ HK0.out)
  have HC1:=Lib.hid (hI.k.keep _ _ _ _ HK1.out)
  have HC3:=Lib.hid (hI.k.keep _ _ _ _ HK3.out)
  have HO2:=Lib.hid (own_same HO.out fun q hq=>hb2.block q (HGO.out q hq))
  have HB2:=Lib.hid hb2
  have HDD2:=Lib.hid hDd
  have HKD:=Lib.hid hKD
  have HSB:Hid (bm < W2.heap.size∧bo < W2.heap.size∧bx < W2.heap.size∧w.heap.size < W2.heap.size∧w.heap.size≤bm∧w.heap.size≤bo∧w.heap.size≤bx):=Lib.hid (by have:=HS5.out;have:=hI.k.bel.size;omega)
  have HLL:Hid (L.length=no):=Lib.hid (rs_own_len en3_len (by decide) HO.out)
  clear hI hb2 hKD hseq h0 hks hDd
  gi_wp2_with fail
  gi_loopw [8,28] (fun v8 v28 wr=> ∃(k:Nat) (A:Option Addr) (N c:Nat),v8= .slice A N c∧v28= .int .i64 (k:Int)∧k≤nC∧Mg2 D tk dl L cl base O no co W2 k A N c wr) (fun _ v28 _=>nC - (intOf v28).toNat)
  case atStart=>exact⟨0,none,0,0,rfl,rfl,Nat.zero_le _,World.ownsRow_nil _ _ _ _,HO2.out,Kept.refl _ _⟩
  case round=>
   obtain⟨k,A,N,c,rfl,rfl,hk,hM⟩:=hrel
   have HM:=Lib.hid hM
   by_cases hlt:k < nC
   ·have hkl:k < cl.length:=by have:=HSC.out.1;omega
    obtain rfl:AC=some ⟨bC,oC,none⟩:=HSC.out.2.1 (by omega)
    have HKL:=Lib.hid hkl
    have HLT:=Lib.hid hlt
    obtain⟨x,hx⟩: ∃x,cl[k]=x:=⟨_,rfl⟩
    have d0:wr.cell? ⟨bC,oC+k,none⟩=some (.int .i64 (x:Int)):=by rw[← hx];exact HSC.out.2.2 wr (HKW2.out.trans hM.k) k hkl
    have HXM:Hid (x∈cl):=Lib.hid (by rw[← hx];exact List.getElem_mem hkl)
    have HX:=Lib.hid hx
    have HXL:=Lib.hid (HCL.out x HXM.out)
    have kx:=(cell_blk (i:=0) ((hM.k.block bx HSB.out.2.2.1 (HND2.out _ HSB.out.2.2.2.2.2.2)).trans HC3.out)).trans rfl
    have ko:=(cell_blk (i:=0) ((hM.k.block bo HSB.out.2.1 (HND2.out _ HSB.out.2.2.2.2.2.1)).trans HC1.out)).trans rfl
    have hin:(k:Int) < (nC:Int):=by omega
    have hk9:k≤60000:=by have:=HNC.out;omega
    clear hk hM hlt hkl hx
    gi_wp2_with fail
    clear d0
    refine wpIn_region_ord (open_wide _) [0,1,2,3,4,5,6,7,8,9] [3,4] 10 (fun w'=>w'.cell? ⟨bx,0,none⟩=some (.map (some bm))∧w'.cell? ⟨bo,0,none⟩=some (.func (.func 88) #[.agg #[v,.slice A1 n1 c1,.slice A2 n2 c2,.slice A3 n3 c3,.slice A4 n4 c4,.slice F nf cf,.slice X nx cx,.slice V nv cv,.slice O no co]] #[])) hmx (by kernel_rfl) (by kernel_rfl) (by kernel_rfl) (by kernel_rfl) ⟨kx,ko⟩ ?_
    simp only[steps,List.getElem?_cons_zero,List.getElem?_cons_succ]
    clear kx ko
    repeat(first
     |(refine ord_no rfl ?_;simp only[Act.put,List.setIfInBounds_toArray,List.set_cons_zero,List.set_cons_succ])
     |(refine ord_yes (v:= ?_) rfl rfl ?_ ?_;rotate_left;(focus(rintro w' ⟨x0,x1⟩;go_simp;try with_reducible rfl));simp only[Act.put,List.setIfInBounds_toArray,List.set_cons_zero,List.set_cons_succ]))
    have HMd:=Lib.hid (HM.out.behind ((Below.refl wr.heap.size wr).drew))
    clear HM
    generalize World.drew _=wd at*
    refine ord_hard rfl rfl (fun K hK=> ?_)
    go_simp
    refine(HOF.out wd (HKW2.out.trans HMd.out.k) x (.inl HXM.out)).mono ?_
    rintro e w6 ⟨rfl,hv⟩
    have HM6:=Lib.hid (HMd.out.behind hv)
    have hm6:=HM6.out.k
    have hs6:w6.cell? ⟨bx,0,none⟩=some (.map (some bm))∧w6.cell? ⟨bo,0,none⟩=some (.func (.func 88) #[.agg #[v,.slice A1 n1 c1,.slice A2 n2 c2,.slice A3 n3 c3,.slice A4 n4 c4,.slice F nf cf,.slice X nx cx,.slice V nv cv,.slice O no co]] #[]):=⟨(cell_blk (i:=0) ((hm6.block bx HSB.out.2.2.1 (HND2.out _ HSB.out.2.2.2.2.2.2)).trans HC3.out)).trans rfl,(cell_blk (i:=0) ((hm6.block bo HSB.out.2.1 (HND2.out _ HSB.out.2.2.2.2.2.1)).trans HC1.out)).trans rfl⟩
    have HS6:=Lib.hid hs6
    have hmap6:=HMAP.out.move (hm6.block bm HSB.out.1 (HND2.out _ HSB.out.2.2.2.2.1))
    have k8:w6.cell? ⟨w.heap.size,8,none⟩=some (.slice O no co):=(cell_blk (i:=8) ((hm6.block w.heap.size HSB.out.2.2.2.1 (HND2.out _ (Nat.le_refl _))).trans HC0.out)).trans rfl
    refine hK.out _ _ (fun _=>hs6) ?_
    clear hK K hv HMd hs6 hm6
    try simp only[Act.put,List.setIfInBounds_toArray,List.set_cons_zero,List.set_cons_succ]
    have hkey:=keyT (x:=tk x) (HTK.out x (.inl HXM.out)).1 (HTK.out x (.inl HXM.out)).2
    obtain⟨mg,hmg⟩: ∃m,mgL tk dl x=m:=⟨_,rfl⟩
    have HMG:=Lib.hid hmg
    have hmg':(dl.find? fun b=>decide (tk b=tk x))=mg:=hmg
    refine ord_hard rfl rfl (fun K hK=> ?_)
    refine op_look_ok (.tmp 33) (.tmp 36) 205 rfl lawT Tryz.underlying205 Tryz.underlying3 zero3 hmap6 rfl (tk x) rfl hkey (mg.getD 0) (by rw[hmg']) mg.isSome (by rw[hmg']) ?_
    refine hK.out _ _ (fun _=>HS6.out) ?_
    clear hK K hkey hmg hmg' hmap6
    try simp only[Act.put,List.setIfInBounds_toArray,List.set_cons_zero,List.set_cons_succ]
    cases mg with
    |some b=>
     simp only[Option.getD_some,Option.isSome_some]
     repeat(first
      |(refine ord_no rfl ?_;simp only[Act.put,List.setIfInBounds_toArray,List.set_cons_zero,List.set_cons_succ])
      |(refine ord_yes (v:= ?_) rfl rfl ?_ ?_;rotate_left;(focus(rintro w' ⟨x0,x1⟩;go_simp;try with_reducible rfl));simp only[Act.put,List.setIfInBounds_toArray,List.set_cons_zero,List.set_cons_succ]))
     refine ord_endT ?_
     have HXK:=HX.out
     subst HXK
     obtain⟨g,rfl,⟨u,hu⟩,hfz,hset⟩:=HM6.out.set HGO2.out HDD.out HKL.out HMG.out HXL.out
     have HSET:=Lib.hid hset
     have hxn:((cl[k]'HKL.out:Nat):Int) < (no:Int):=by have:=HXL.out;have:=HLL.out;omega
     have hx9:(cl[k]'HKL.out)≤60000:=by have:=HXL.out;have:=HL.out;omega
     clear HM6 hset HX HXM HXL
     generalize cl[k]'HKL.out=x at*
     gi_wp2_with fail
     go_roundw
     case rel=>exact⟨k+1,A,N,c,rfl,by go_num,HLT.out,HSET.out⟩
     case measure=>
      have:=HLT.out
      simp[intOf]
      omega
    |none=>
     simp only[Option.getD_none,Option.isSome_none]
     repeat(first
      |(refine ord_no rfl ?_;simp only[Act.put,List.setIfInBounds_toArray,List.set_cons_zero,List.set_cons_succ])
      |(refine ord_yes (v:= ?_) rfl rfl ?_ ?_;rotate_left;(focus(rintro w' ⟨x0,x1⟩;go_simp;try with_reducible rfl));simp only[Act.put,List.setIfInBounds_toArray,List.set_cons_zero,List.set_cons_succ]))
     refine ord_endT ?_
     clear k8
     have HO:=Lib.hid (one_i w6 x)
     have HAL:=Lib.hid (show Below w6.heap.size w6 (w6.alloc (.cells #[.int .i64 (x:Int)] 3)) from(Below.refl _ _).alloc (Nat.le_refl _) _)
     have HM7:=Lib.hid (HM6.out.behind HAL.out)
     have hsz:=HM7.out.k.size
     have hN1:N+1≤100000:=by
      have h1:=rs_own_len en3_len (by decide) HM7.out.o
      have h2:=otL_le tk dl cl k
      have h3:=HNC.out
      have h4:=HSC.out.1
      omega
     gi_wp2_with (gi_at_builtin;refine wpListIn_append_i (open_wide _) rfl (.tmp 46) (.tmp 48) rfl W2.heap.size _ N _ rfl HM7.out.o _ _ 1 1 [x] rfl HO.out hN1 hsz ?_;intro A' k' c' w' HK HA)
     go_roundw
     case rel=>exact⟨k+1,A',k',c',rfl,by go_num,HLT.out,by
      have e:=HX.out
      subst e
      exact HM7.out.add HGO2.out HKL.out HMG.out HA.out⟩
     case measure=>
      have:=HLT.out
      simp[intOf]
      omega
   ·obtain rfl:k=nC:=by omega
    have e1:cl.take k=cl:=List.take_of_length_le (by have:=HSC.out.1;omega)
    obtain⟨ho,hl,hkk⟩:=hM
    rw[e1] at ho hl
    have hkd:wr.heap[Dd]?=some (.deferred (some [])):=(hkk.block Dd (lt_blk HKD.out) (HND2.out _ (Nat.le_trans HN0.out HDD2.out))).trans HKD.out
    have HP:Hid (∀o',(wr.putObj Dd o').ownsRow w.heap.size 3 1 (.slice A N c) N ((otL tk dl cl).flatMap en3)∧(wr.putObj Dd o').ownsRow base 3 1 (.slice O no co) no ((stA tk dl L cl).flatMap en3)∧Kept D w (wr.putObj Dd o')):=Lib.hid fun o'=>by
     have hDl:Dd < W2.heap.size:=lt_blk HKD.out
     refine⟨own_baseN (own_same ho fun q hq=>World.putObj_heap_other (by have:=(ho.lt q hq).1;omega)) HB2.out.size,own_same hl fun q hq=>World.putObj_heap_other (by have:=HGO.out q hq;have:=HDD2.out;have:=HN0.out;omega),?_⟩
     have hg:wr.grownBy (wr.putObj Dd o') (some Dd):=grownBy_putObj' wr Dd o'
     have h1:=HKW2.out.trans hkk
     exact⟨hg.os.trans h1.os,hg.tape.trans h1.tape,hg.output.trans h1.output,Nat.le_trans h1.size hg.size,fun b hb hn=>(hg.block b (Nat.lt_of_lt_of_le hb h1.size) fun e=>by injection e with e;have:=HDD2.out;have:=HN0.out;omega).trans (h1.block b hb hn)⟩
    clear hlt hk ho hl hkk HM
    gi_wp2
    refine⟨by simp,.inl ⟨_,_,rfl,run_takeDeferred hkd,?_⟩⟩
    exact⟨_,by simp[results,Tryz.f87,go_sem],A,N,c,rfl,HP.out _⟩
set_option maxRecDepth 100000 in
set_option maxHeartbeats 8000000 in
theorem merge_wide89 (base:Nat)(tk:Tk)(v:Value)(A1:Option Addr)(n1 c1:Nat)(A2:Option Addr)(n2 c2:Nat)(A3:Option Addr)(n3 c3:Nat)(A4:Option Addr)(n4 c4:Nat)(F:Option Addr)(nf cf:Nat)(X:Option Addr)(nx cx:Nat)(V:Option Addr)(nv cv:Nat)(O:Option Addr)(no co:Nat)(AC:Option Addr)(nC cC:Nat)(AD:Option Addr)(nD cD:Nat)(cl dl L:List Nat)(w:World)
  (hO:w.ownsRow base 3 1 (.slice O no co) no (L.flatMap en3)) (hC:Rd nmI w w.heap.size AC nC cC cl) (hCo: ∀b o,AC=some ⟨b,o,none⟩→ ¬(Value.slice O no co).ownBlock=some b)
  (hD:Rd nmI w w.heap.size AD nD cD dl) (hDo: ∀b o,AD=some ⟨b,o,none⟩→ ¬(Value.slice O no co).ownBlock=some b) (hcl: ∀x∈cl,x < L.length) (hdb: ∀x∈dl,x≤1000000) (hnC:nC≤400) (hnD:nD≤400) (hL:L.length≤400)
  (htk: ∀x,x∈cl∨x∈dl→(tk x).1 < 18446744073709551616∧(tk x).2.size≤maxLen)
  (hof: ∀W,Kept (fun b=>(Value.slice O no co).ownBlock=some b) w W→ ∀x,x∈cl∨x∈dl→Calls Tryz.prog 89 #[tdV v A1 n1 c1 A2 n2 c2 A3 n3 c3 A4 n4 c4 F nf cf X nx cx V nv cv O no co,.int .i64 (x:Int)] W fun e w'=>e= .returned (enT (tk x))∧Below W.heap.size W w'):
  CallsIn Fence.wide 6 Tryz.prog 87 #[tdV v A1 n1 c1 A2 n2 c2 A3 n3 c3 A4 n4 c4 F nf cf X nx cx V nv cv O no co,.slice AC nC cC,.slice AD nD cD,.func (.func 89) #[tdV v A1 n1 c1 A2 n2 c2 A3 n3 c3 A4 n4 c4 F nf cf X nx cx V nv cv O no co] #[]] w fun e w'=> ∃A N c,e= .returned (.slice A N c)∧w'.ownsRow w.heap.size 3 1 (.slice A N c) N ((otL tk dl cl).flatMap en3)∧
   w'.ownsRow base 3 1 (.slice O no co) no ((stA tk dl L cl).flatMap en3)∧Kept (fun b=>(Value.slice O no co).ownBlock=some b) w w':=by
 obtain⟨bC,oC,hsC⟩:=Shows.of hC hCo
 obtain⟨bD,oD,hsD⟩:=Shows.of hD hDo
 have HOF:=Lib.hid hof
 have HTK:=Lib.hid htk
 have HCL:=Lib.hid hcl
 have HDB:=Lib.hid hdb
 have HNC:=Lib.hid hnC
 have HND:=Lib.hid hnD
 have HL:=Lib.hid hL
 have HSC:=Lib.hid hsC
 have HSD:=Lib.hid hsD
 have HO:=Lib.hid hO
 have hmm:= @run_makeMap Tryz.prog
 have hcD:=Nat.le_trans hC.cap hC.top
 have hown:=fun q e=>(hO.lt q e).2
 have HGO:=Lib.hid hown
 obtain⟨D,hD'⟩: ∃D:Nat→Prop,(fun b=>(Value.slice O no co).ownBlock=some b)=D:=⟨_,rfl⟩
 rw[hD'] at HOF HSC HSD ⊢
 have HDD:Hid (∀b,D b↔(Value.slice O no co).ownBlock=some b):=Lib.hid fun b=>by rw[← hD']
 clear hO hC hCo hD hDo hcl hdb hnC hnD hL htk hof hsC hsD hD' hown
 unfold tdV at HOF ⊢
 refine callsIn_of_wp_marks Tryz.func87 rfl trivial ?_ rfl
 simp only[Tryz.ntmps87,List.size_toArray,List.length_cons,List.length_nil,Nat.reduceAdd,Nat.reduceSub,Array.replicate_succ,Array.replicate_zero,List.push_toArray,List.append_toArray,List.nil_append,List.cons_append]
 gi_wp2_with fail
 obtain⟨w4,hw4⟩: ∃w4,(((w.alloc (.cells #[v,.slice A1 n1 c1,.slice A2 n2 c2,.slice A3 n3 c3,.slice A4 n4 c4,.slice F nf cf,.slice X nx cx,.slice V nv cv,.slice O no co] 108)).alloc (.cells #[.func (.func 89) #[.agg #[v,.slice A1 n1 c1,.slice A2 n2 c2,.slice A3 n3 c3,.slice A4 n4 c4,.slice F nf cf,.slice X nx cx,.slice V nv cv,.slice O no co]] #[]] 165)).alloc (.map #[] 0)).alloc (.cells #[.map (some (w.heap.size+1+1))] 205)=w4:=⟨_,rfl⟩
 have hfacts:w4.heap.size=w.heap.size+4∧w4.heap[w.heap.size]?=some (.cells #[v,.slice A1 n1 c1,.slice A2 n2 c2,.slice A3 n3 c3,.slice A4 n4 c4,.slice F nf cf,.slice X nx cx,.slice V nv cv,.slice O no co] 108 (0,0))∧w4.heap[w.heap.size+1]?=some (.cells #[.func (.func 89) #[.agg #[v,.slice A1 n1 c1,.slice A2 n2 c2,.slice A3 n3 c3,.slice A4 n4 c4,.slice F nf cf,.slice X nx cx,.slice V nv cv,.slice O no co]] #[]] 165 (0,0))∧MapHas enT 210 3 .i64 w4 (w.heap.size+1+1) 0 (fun _=>none)∧w4.heap[w.heap.size+1+1+1]?=some (.cells #[.map (some (w.heap.size+1+1))] 205 (0,0))∧Below w.heap.size w w4:=by
  obtain⟨x,hx⟩: ∃x,w.alloc (.cells #[v,.slice A1 n1 c1,.slice A2 n2 c2,.slice A3 n3 c3,.slice A4 n4 c4,.slice F nf cf,.slice X nx cx,.slice V nv cv,.slice O no co] 108)=x:=⟨_,rfl⟩
  obtain⟨y,hy⟩: ∃y,x.alloc (.cells #[.func (.func 89) #[.agg #[v,.slice A1 n1 c1,.slice A2 n2 c2,.slice A3 n3 c3,.slice A4 n4 c4,.slice F nf cf,.slice X nx cx,.slice V nv cv,.slice O no co]] #[]] 165)=y:=⟨_,rfl⟩
  obtain⟨u,hu⟩: ∃u,y.alloc (.map #[] 0)=u:=⟨_,rfl⟩
  rw[hx,hy,hu] at hw4
  have sx:x.heap.size=w.heap.size+1:=by rw[← hx,World.size_alloc]
  have sy:y.heap.size=w.heap.size+1+1:=by rw[← hy,World.size_alloc,sx]
  have su:u.heap.size=w.heap.size+1+1+1:=by rw[← hu,World.size_alloc,sy]
  have b0:Below w.heap.size w x:=hx▸(Below.refl _ _).alloc (Nat.le_refl _) _
  have b1:Below x.heap.size x y:=hy▸(Below.refl _ _).alloc (Nat.le_refl _) _
  have b2:Below y.heap.size y u:=hu▸(Below.refl _ _).alloc (Nat.le_refl _) _
  have b3:Below u.heap.size u w4:=hw4▸(Below.refl _ _).alloc (Nat.le_refl _) _
  have k0:x.heap[w.heap.size]?=some (.cells #[v,.slice A1 n1 c1,.slice A2 n2 c2,.slice A3 n3 c3,.slice A4 n4 c4,.slice F nf cf,.slice X nx cx,.slice V nv cv,.slice O no co] 108 (0,0)):=hx▸heap_alloc_new w _
  have k1:y.heap[w.heap.size+1]?=some (.cells #[.func (.func 89) #[.agg #[v,.slice A1 n1 c1,.slice A2 n2 c2,.slice A3 n3 c3,.slice A4 n4 c4,.slice F nf cf,.slice X nx cx,.slice V nv cv,.slice O no co]] #[]] 165 (0,0)):=by rw[← sx, ← hy];exact heap_alloc_new x _
  have k2:MapHas enT 210 3 .i64 u (w.heap.size+1+1) 0 (fun _=>none):=by rw[← sy, ← hu];exact MapHas.made y
  have k3:w4.heap[w.heap.size+1+1+1]?=some (.cells #[.map (some (w.heap.size+1+1))] 205 (0,0)):=by rw[← su, ← hw4];exact heap_alloc_new u _
  refine⟨by rw[← hw4,World.size_alloc,su],?_,?_,k2.below b3,k3,?_⟩
  ·exact(b3.block _ (by omega)).trans ((b2.block _ (by omega)).trans ((b1.block _ (by omega)).trans k0))
  ·exact(b3.block _ (by omega)).trans ((b2.block _ (by omega)).trans k1)
  ·exact b0.trans ((b1.trans ((b2.trans (b3.mono b2.size)).mono b1.size)).mono b0.size)
 obtain⟨s4,k0,k1,k2,k3,b4⟩:=hfacts
 obtain⟨bo,hbo⟩: ∃b,w.heap.size+1=b:=⟨_,rfl⟩
 obtain⟨bm,hbm⟩: ∃b,bo+1=b:=⟨_,rfl⟩
 obtain⟨bx,hbx⟩: ∃b,bm+1=b:=⟨_,rfl⟩
 simp only[hbo,hbm,hbx] at k1 k2 k3 hw4 ⊢
 generalize hwd:World.alloc (World.alloc (World.alloc (World.alloc _ _) _) _) _=wd'
 obtain rfl:w4=wd':=hw4.symm.trans hwd
 clear hwd
 refine⟨trivial,(bwd_in _ AD nD cD _).mono ?_⟩
 rintro e w5 ⟨rfl,rfl⟩
 have hal:Below w4.heap.size w4 (w4.alloc (.cells #[.slice AD nD cD] 82)):=(Below.refl _ _).alloc (Nat.le_refl _) _
 have s5:(w4.alloc (.cells #[.slice AD nD cD] 82)).heap.size=w4.heap.size+1:=World.size_alloc _ _
 have k4:=heap_alloc_new w4 (.cells #[.slice AD nD cD] 82)
 replace k0:=(hal.block _ (lt_blk k0)).trans k0
 replace k1:=(hal.block _ (lt_blk k1)).trans k1
 replace k3:=(hal.block _ (lt_blk k3)).trans k3
 replace k2:=k2.below hal
 replace b4:=b4.trans (hal.mono b4.size)
 clear hal
 gi_wp2_with fail
 clear hw4 hmm
 generalize w4.alloc (.cells #[.slice AD nD cD] 82)=w5 at*
 rw[s4] at k4
 have HK0:=Lib.hid k0
 have HK1:=Lib.hid k1
 have HK3:=Lib.hid k3
 have HB4:=Lib.hid b4
 have HS5:Hid (w5.heap.size=w.heap.size+5∧bo=w.heap.size+1∧bm=w.heap.size+2∧bx=w.heap.size+3):=Lib.hid (by omega)
 have hmx:Tryz.prog.follows .mixedOrders=true:=by kernel_rfl
 have h0:MgI tk w.heap.size bm w5 [] w5:=⟨KpM.refl _ _,k2⟩
 have hks:Kept D w w5:=Kept.of_below b4
 have hseq:=bwd_comes (6 - 1) (w.heap.size+4) w.heap.size bD oD nD cD dl HSD.out.1 w5 (by have:=HND.out;omega) AD HSD.out.2.1 ((cell_blk (i:=0) k4).trans rfl) (HSD.out.2.2 w5 hks)
 have HN0:Hid (w.heap.size≤w5.heap.size):=Lib.hid b4.size
 clear k0 k1 k2 k3 k4 b4 s4 s5 hbo hbm hbx
 refine range_put (gf:=155) (lb:= #[.pointer (some ⟨w.heap.size+4,0,none⟩)]) rfl (enters_of Tryz.func155 (by kernel_rfl) rfl) hseq
  KpM.trans (fun W l' o o' h1 h2 h3=>KpM.put HN0.out W l' o o' h1 h2 h3) (fun {A B} h=>by cases h;exact KeepsFrom.refl _ _) (fun _=>rfl)
  (fun pre W=>MgI tk w.heap.size bm w5 (pre.map fun x=>dl[x.val]) W)
  (fun pre W W' row hs hg hrow=>hs.grow hg hrow HN0.out (by have:=HS5.out;omega) (Nat.le_trans HN0.out hs.k.bel.size))
  (fun pre W W' hs hst=>by cases hst;exact hs)
  h0 ?a1 ?assign ?body ?done
 case assign=>
  intro yl x W K hK
  unfold bwA
  gi_wp2
  exact hK
 case body=>
  rintro yl pre x W hI hlen
  have hbm:dl[x.val]∈dl:=List.getElem_mem _
  have HMAP:Hid ((pre++ [x]).map (fun x:Fin dl.length=>dl[x.val])=pre.map (fun x=>dl[x.val])++ [dl[x.val]]):=Lib.hid (by simp)
  have hl9:(pre.map (fun x:Fin dl.length=>dl[x.val])).length≤400:=by
   rw[List.length_map]
   have h1:=HND.out
   have h2:=HSD.out.1
   simp[bwY] at hlen
   omega
  generalize pre.map (fun x:Fin dl.length=>dl[x.val])=ps at*
  show Code.wpIn _ _ _ _ _ _ W
  generalize dl[x.val]=bv at*
  have HBV:=Lib.hid hbm
  have HI:=Lib.hid hI
  have kx:=hI.k.cell ((cell_blk (i:=0) HK3.out).trans rfl)
  have ko:=hI.k.cell ((cell_blk (i:=0) HK1.out).trans rfl)
  have HKX:=Lib.hid kx
  have HKO:=Lib.hid ko
  clear hbm hI hlen hseq h0 hks
  gi_wp2
  refine wpIn_region_ord (open_round _ _) [0,1,2,4,3,5] [3,5] 5 (fun w'=>w'.cell? ⟨bx,0,none⟩=some (.map (some bm))∧w'.cell? ⟨bo,0,none⟩=some (.func (.func 89) #[.agg #[v,.slice A1 n1 c1,.slice A2 n2 c2,.slice A3 n3 c3,.slice A4 n4 c4,.slice F nf cf,.slice X nx cx,.slice V nv cv,.slice O no co]] #[])) hmx (by kernel_rfl) (by kernel_rfl) (by kernel_rfl) (by kernel_rfl) ⟨kx,ko⟩ ?_
  simp only[steps,List.getElem?_cons_zero,List.getElem?_cons_succ]
  clear kx ko
  repeat(first
   |(refine ord_no rfl ?_;simp only[Act.put,List.setIfInBounds_toArray,List.set_cons_zero,List.set_cons_succ])
   |(refine ord_yes (v:= ?_) rfl rfl ?_ ?_;rotate_left;(focus(rintro w' ⟨x0,x1⟩;go_simp;try with_reducible rfl));simp only[Act.put,List.setIfInBounds_toArray,List.set_cons_zero,List.set_cons_succ]))
  have HNW:Hid (w.heap.size≤W.heap.size):=Lib.hid (Nat.le_trans HN0.out HI.out.k.bel.size)
  have HID:=Lib.hid (HI.out.behind ((Below.refl W.heap.size W).drew) HNW.out)
  have HWD:=Lib.hid ((Below.refl W.heap.size W).drew)
  generalize World.drew _=wd at*
  refine ord_hard rfl rfl (fun K hK=> ?_)
  go_simp
  refine(HOF.out wd (Kept.of_below (HB4.out.trans HID.out.k.bel)) bv (.inr HBV.out)).mono ?_
  rintro e w6 ⟨rfl,hv⟩
  have HI6:=Lib.hid (HID.out.behind hv (Nat.le_trans HNW.out HWD.out.size))
  have HW6:=Lib.hid (HWD.out.trans (hv.mono HWD.out.size))
  refine hK.out _ _ (fun _=>⟨HI6.out.k.cell ((cell_blk (i:=0) HK3.out).trans rfl),HI6.out.k.cell ((cell_blk (i:=0) HK1.out).trans rfl)⟩) ?_
  clear hK K hv HID HWD
  try simp only[Act.put,List.setIfInBounds_toArray,List.set_cons_zero,List.set_cons_succ]
  have hkey:=keyT (x:=tk bv) (HTK.out bv (.inr HBV.out)).1 (HTK.out bv (.inr HBV.out)).2
  have hwf:(Lit.int .i64 (bv:Int)).wf=true:=wf_i64 (HDB.out bv HBV.out)
  refine ord_hard rfl rfl (fun K hK=> ?_)
  refine op_put (.tmp 21) (.tmp 24) (.tmp 25) 205 rfl lawT Tryz.underlying205 Tryz.underlying3 enT_inj HI6.out.m rfl (tk bv) rfl hkey bv rfl hwf (by unfold maxLen;omega) ?_
  intro w7 hm7 hg7
  have HM7:=Lib.hid hm7
  have HKP:=Lib.hid (KpM.map (n₀:=w.heap.size) HI6.out.m hg7 (by have:=HS5.out;omega) (Nat.le_trans HNW.out HW6.out.size))
  have HKF:Hid (KeepsFrom w5.heap.size W w7):=Lib.hid ((KeepsFrom.of_grownBy (B:=w5.heap.size) (row:=none) ⟨HW6.out.os,HW6.out.tape,HW6.out.output,HW6.out.size,fun k hk _=>HW6.out.block k hk⟩ (fun j e=>by cases e)).trans (KeepsFrom.of_grownBy hg7 fun j e=>by cases e;have:=HS5.out;omega))
  refine hK.out _ _ (fun h=>absurd rfl h) ?_
  clear hK K hm7 hg7 hkey hwf
  try simp only[Act.put]
  refine ord_endT ?_
  refine⟨HKF.out,(KpM.behind HW6.out HNW.out).trans HKP.out,?_⟩
  show MgI tk w.heap.size bm w5 ((pre++ [x]).map fun x=>dl[x.val]) w7
  rw[HMAP.out]
  exact⟨HI6.out.k.trans HKP.out,by rw[List.length_append,List.length_singleton,hmP_next];exact HM7.out⟩
 case done=>
  rintro Dd W2 hDd hI hKD
  replace hI:MgI tk w.heap.size bm w5 dl.reverse W2:=by
   have h:MgI tk w.heap.size bm w5 ((bwY dl.length).map fun x=>dl[x.val]) W2:=hI
   rw[bwY_vals] at h
   exact h
  have hb2:Below w.heap.size w W2:=HB4.out.trans hI.k.bel
  have HGO2:Hid (∀q,(Value.slice O no co).ownBlock=some q→q < W2.heap.size):=Lib.hid fun q hq=>Nat.lt_of_lt_of_le (HGO.out q hq) hb2.size
  have HKW2:Hid (Kept D w W2):=Lib.hid (Kept.of_below hb2)
  have HND2:Hid (∀q,w.heap.size≤q→ ¬D q):=Lib.hid fun q hq hd=>by have:=HGO.out q ((HDD.out q).1 hd);omega
  have HMAP:Hid (MapHas enT 210 3 .i64 W2 bm dl.reverse.length (fun key=>dl.find? fun b=>decide (tk b=key))):=Lib.hid (by rw[← hmP_all];exact hI.m)
  have HC0:=Lib.hid (hI.k.keep _ _ _ _ HK0.out)
  have HC1:=Lib.hid (hI.k.keep _ _ _ _ HK1.out)
  have HC3:=Lib.hid (hI.k.keep _ _ _ _ HK3.out)
  have HO2:=Lib.hid (own_same HO.out fun q hq=>hb2.block q (HGO.out q hq))
  have HB2:=Lib.hid hb2
  have HDD2:=Lib.hid hDd
  have HKD:=Lib.hid hKD
  have HSB:Hid (bm < W2.heap.size∧bo < W2.heap.size∧bx < W2.heap.size∧w.heap.size < W2.heap.size∧w.heap.size≤bm∧w.heap.size≤bo∧w.heap.size≤bx):=Lib.hid (by have:=HS5.out;have:=hI.k.bel.size;omega)
  have HLL:Hid (L.length=no):=Lib.hid (rs_own_len en3_len (by decide) HO.out)
  clear hI hb2 hKD hseq h0 hks hDd
  gi_wp2_with fail
  gi_loopw [8,28] (fun v8 v28 wr=> ∃(k:Nat) (A:Option Addr) (N c:Nat),v8= .slice A N c∧v28= .int .i64 (k:Int)∧k≤nC∧Mg2 D tk dl L cl base O no co W2 k A N c wr) (fun _ v28 _=>nC - (intOf v28).toNat)
  case atStart=>exact⟨0,none,0,0,rfl,rfl,Nat.zero_le _,World.ownsRow_nil _ _ _ _,HO2.out,Kept.refl _ _⟩
  case round=>
   obtain⟨k,A,N,c,rfl,rfl,hk,hM⟩:=hrel
   have HM:=Lib.hid hM
   by_cases hlt:k < nC
   ·have hkl:k < cl.length:=by have:=HSC.out.1;omega
    obtain rfl:AC=some ⟨bC,oC,none⟩:=HSC.out.2.1 (by omega)
    have HKL:=Lib.hid hkl
    have HLT:=Lib.hid hlt
    obtain⟨x,hx⟩: ∃x,cl[k]=x:=⟨_,rfl⟩
    have d0:wr.cell? ⟨bC,oC+k,none⟩=some (.int .i64 (x:Int)):=by rw[← hx];exact HSC.out.2.2 wr (HKW2.out.trans hM.k) k hkl
    have HXM:Hid (x∈cl):=Lib.hid (by rw[← hx];exact List.getElem_mem hkl)
    have HX:=Lib.hid hx
    have HXL:=Lib.hid (HCL.out x HXM.out)
    have kx:=(cell_blk (i:=0) ((hM.k.block bx HSB.out.2.2.1 (HND2.out _ HSB.out.2.2.2.2.2.2)).trans HC3.out)).trans rfl
    have ko:=(cell_blk (i:=0) ((hM.k.block bo HSB.out.2.1 (HND2.out _ HSB.out.2.2.2.2.2.1)).trans HC1.out)).trans rfl
    have hin:(k:Int) < (nC:Int):=by omega
    have hk9:k≤60000:=by have:=HNC.out;omega
    clear hk hM hlt hkl hx
    gi_wp2_with fail
    clear d0
    refine wpIn_region_ord (open_wide _) [0,1,2,3,4,5,6,7,8,9] [3,4] 10 (fun w'=>w'.cell? ⟨bx,0,none⟩=some (.map (some bm))∧w'.cell? ⟨bo,0,none⟩=some (.func (.func 89) #[.agg #[v,.slice A1 n1 c1,.slice A2 n2 c2,.slice A3 n3 c3,.slice A4 n4 c4,.slice F nf cf,.slice X nx cx,.slice V nv cv,.slice O no co]] #[])) hmx (by kernel_rfl) (by kernel_rfl) (by kernel_rfl) (by kernel_rfl) ⟨kx,ko⟩ ?_
    simp only[steps,List.getElem?_cons_zero,List.getElem?_cons_succ]
    clear kx ko
    repeat(first
     |(refine ord_no rfl ?_;simp only[Act.put,List.setIfInBounds_toArray,List.set_cons_zero,List.set_cons_succ])
     |(refine ord_yes (v:= ?_) rfl rfl ?_ ?_;rotate_left;(focus(rintro w' ⟨x0,x1⟩;go_simp;try with_reducible rfl));simp only[Act.put,List.setIfInBounds_toArray,List.set_cons_zero,List.set_cons_succ]))
    have HMd:=Lib.hid (HM.out.behind ((Below.refl wr.heap.size wr).drew))
    clear HM
    generalize World.drew _=wd at*
    refine ord_hard rfl rfl (fun K hK=> ?_)
    go_simp
    refine(HOF.out wd (HKW2.out.trans HMd.out.k) x (.inl HXM.out)).mono ?_
    rintro e w6 ⟨rfl,hv⟩
    have HM6:=Lib.hid (HMd.out.behind hv)
    have hm6:=HM6.out.k
    have hs6:w6.cell? ⟨bx,0,none⟩=some (.map (some bm))∧w6.cell? ⟨bo,0,none⟩=some (.func (.func 89) #[.agg #[v,.slice A1 n1 c1,.slice A2 n2 c2,.slice A3 n3 c3,.slice A4 n4 c4,.slice F nf cf,.slice X nx cx,.slice V nv cv,.slice O no co]] #[]):=⟨(cell_blk (i:=0) ((hm6.block bx HSB.out.2.2.1 (HND2.out _ HSB.out.2.2.2.2.2.2)).trans HC3.out)).trans rfl,(cell_blk (i:=0) ((hm6.block bo HSB.out.2.1 (HND2.out _ HSB.out.2.2.2.2.2.1)).trans HC1.out)).trans rfl⟩
    have HS6:=Lib.hid hs6
    have hmap6:=HMAP.out.move (hm6.block bm HSB.out.1 (HND2.out _ HSB.out.2.2.2.2.1))
    have k8:w6.cell? ⟨w.heap.size,8,none⟩=some (.slice O no co):=(cell_blk (i:=8) ((hm6.block w.heap.size HSB.out.2.2.2.1 (HND2.out _ (Nat.le_refl _))).trans HC0.out)).trans rfl
    refine hK.out _ _ (fun _=>hs6) ?_
    clear hK K hv HMd hs6 hm6
    try simp only[Act.put,List.setIfInBounds_toArray,List.set_cons_zero,List.set_cons_succ]
    have hkey:=keyT (x:=tk x) (HTK.out x (.inl HXM.out)).1 (HTK.out x (.inl HXM.out)).2
    obtain⟨mg,hmg⟩: ∃m,mgL tk dl x=m:=⟨_,rfl⟩
    have HMG:=Lib.hid hmg
    have hmg':(dl.find? fun b=>decide (tk b=tk x))=mg:=hmg
    refine ord_hard rfl rfl (fun K hK=> ?_)
    refine op_look_ok (.tmp 33) (.tmp 36) 205 rfl lawT Tryz.underlying205 Tryz.underlying3 zero3 hmap6 rfl (tk x) rfl hkey (mg.getD 0) (by rw[hmg']) mg.isSome (by rw[hmg']) ?_
    refine hK.out _ _ (fun _=>HS6.out) ?_
    clear hK K hkey hmg hmg' hmap6
    try simp only[Act.put,List.setIfInBounds_toArray,List.set_cons_zero,List.set_cons_succ]
    cases mg with
    |some b=>
     simp only[Option.getD_some,Option.isSome_some]
     repeat(first
      |(refine ord_no rfl ?_;simp only[Act.put,List.setIfInBounds_toArray,List.set_cons_zero,List.set_cons_succ])
      |(refine ord_yes (v:= ?_) rfl rfl ?_ ?_;rotate_left;(focus(rintro w' ⟨x0,x1⟩;go_simp;try with_reducible rfl));simp only[Act.put,List.setIfInBounds_toArray,List.set_cons_zero,List.set_cons_succ]))
     refine ord_endT ?_
     have HXK:=HX.out
     subst HXK
     obtain⟨g,rfl,⟨u,hu⟩,hfz,hset⟩:=HM6.out.set HGO2.out HDD.out HKL.out HMG.out HXL.out
     have HSET:=Lib.hid hset
     have hxn:((cl[k]'HKL.out:Nat):Int) < (no:Int):=by have:=HXL.out;have:=HLL.out;omega
     have hx9:(cl[k]'HKL.out)≤60000:=by have:=HXL.out;have:=HL.out;omega
     clear HM6 hset HX HXM HXL
     generalize cl[k]'HKL.out=x at*
     gi_wp2_with fail
     go_roundw
     case rel=>exact⟨k+1,A,N,c,rfl,by go_num,HLT.out,HSET.out⟩
     case measure=>
      have:=HLT.out
      simp[intOf]
      omega
    |none=>
     simp only[Option.getD_none,Option.isSome_none]
     repeat(first
      |(refine ord_no rfl ?_;simp only[Act.put,List.setIfInBounds_toArray,List.set_cons_zero,List.set_cons_succ])
      |(refine ord_yes (v:= ?_) rfl rfl ?_ ?_;rotate_left;(focus(rintro w' ⟨x0,x1⟩;go_simp;try with_reducible rfl));simp only[Act.put,List.setIfInBounds_toArray,List.set_cons_zero,List.set_cons_succ]))
     refine ord_endT ?_
     clear k8
     have HO:=Lib.hid (one_i w6 x)
     have HAL:=Lib.hid (show Below w6.heap.size w6 (w6.alloc (.cells #[.int .i64 (x:Int)] 3)) from(Below.refl _ _).alloc (Nat.le_refl _) _)
     have HM7:=Lib.hid (HM6.out.behind HAL.out)
     have hsz:=HM7.out.k.size
     have hN1:N+1≤100000:=by
      have h1:=rs_own_len en3_len (by decide) HM7.out.o
      have h2:=otL_le tk dl cl k
      have h3:=HNC.out
      have h4:=HSC.out.1
      omega
     gi_wp2_with (gi_at_builtin;refine wpListIn_append_i (open_wide _) rfl (.tmp 46) (.tmp 48) rfl W2.heap.size _ N _ rfl HM7.out.o _ _ 1 1 [x] rfl HO.out hN1 hsz ?_;intro A' k' c' w' HK HA)
     go_roundw
     case rel=>exact⟨k+1,A',k',c',rfl,by go_num,HLT.out,by
      have e:=HX.out
      subst e
      exact HM7.out.add HGO2.out HKL.out HMG.out HA.out⟩
     case measure=>
      have:=HLT.out
      simp[intOf]
      omega
   ·obtain rfl:k=nC:=by omega
    have e1:cl.take k=cl:=List.take_of_length_le (by have:=HSC.out.1;omega)
    obtain⟨ho,hl,hkk⟩:=hM
    rw[e1] at ho hl
    have hkd:wr.heap[Dd]?=some (.deferred (some [])):=(hkk.block Dd (lt_blk HKD.out) (HND2.out _ (Nat.le_trans HN0.out HDD2.out))).trans HKD.out
    have HP:Hid (∀o',(wr.putObj Dd o').ownsRow w.heap.size 3 1 (.slice A N c) N ((otL tk dl cl).flatMap en3)∧(wr.putObj Dd o').ownsRow base 3 1 (.slice O no co) no ((stA tk dl L cl).flatMap en3)∧Kept D w (wr.putObj Dd o')):=Lib.hid fun o'=>by
     have hDl:Dd < W2.heap.size:=lt_blk HKD.out
     refine⟨own_baseN (own_same ho fun q hq=>World.putObj_heap_other (by have:=(ho.lt q hq).1;omega)) HB2.out.size,own_same hl fun q hq=>World.putObj_heap_other (by have:=HGO.out q hq;have:=HDD2.out;have:=HN0.out;omega),?_⟩
     have hg:wr.grownBy (wr.putObj Dd o') (some Dd):=grownBy_putObj' wr Dd o'
     have h1:=HKW2.out.trans hkk
     exact⟨hg.os.trans h1.os,hg.tape.trans h1.tape,hg.output.trans h1.output,Nat.le_trans h1.size hg.size,fun b hb hn=>(hg.block b (Nat.lt_of_lt_of_le hb h1.size) fun e=>by injection e with e;have:=HDD2.out;have:=HN0.out;omega).trans (h1.block b hb hn)⟩
    clear hlt hk ho hl hkk HM
    gi_wp2
    refine⟨by simp,.inl ⟨_,_,rfl,run_takeDeferred hkd,?_⟩⟩
    exact⟨_,by simp[results,Tryz.f87,go_sem],A,N,c,rfl,HP.out _⟩
end Go.Proofs.YtmejhedegmjboaaGreat.I
