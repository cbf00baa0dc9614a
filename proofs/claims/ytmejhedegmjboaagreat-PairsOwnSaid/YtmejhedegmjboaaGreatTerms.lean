/- Same; Tell; Alive: merged. -/
/- What the laws of types ask of bodies: one more node ahead, a node less, one more; appends of nodes. No condition but sizes. -/
/- OpenNd; Terms: merged. -/
import Derived.ProofKit
import Derived.OpenShut
import Derived.ShutString
import Derived.ChangeOld
import Derived.Deep.Slices
import Derived.Test.YtmejhedegmjboaaGreatDepths
import Derived.Test.YtmejhedegmjboaaGreatNdMay
namespace Go.Proofs.YtmejhedegmjboaaGreat
open Go.RowKit
end Go.Proofs.YtmejhedegmjboaaGreat
namespace Go.Proofs.YtmejhedegmjboaaGreat
open Go.RowKit
set_option maxRecDepth 100000 in
theorem check_any (A:Option Addr)(n c:Nat)(l:List Nd)(w:World)(h:Ns w w.heap.size A n c l)(hf: ∀x∈l,x.Fits):
  Calls Tryz.prog 48 #[.slice A n c] w fun e w'=>e= .returned (.int .i64 (checkB l:Int))∧Below w.heap.size w w':=by
 have hd:=depths_any A n c l w h hf
 clear hf
 go_enter Tryz.func48,Tryz.ntmps48
 go_wp2_with fail
 refine hd.mono ?_
 rintro e w1 ⟨A',m,c',rfl,_,hb⟩
 go_wp2_with fail
 go_ret
 exact⟨rfl,hb⟩
end Go.Proofs.YtmejhedegmjboaaGreat
namespace Go.Proofs.YtmejhedegmjboaaGreat
open Go.RowKit
def nInt:Nd:=⟨1,0,[105,110,116],0,false,0,false,0,false,0⟩
def nFun:Nd:=⟨5,0,[],2,false,0,false,0,false,0⟩
theorem fits_int:nInt.Fits:=⟨by decide,by decide,by decide,by decide,by decide,by decide,by decide⟩
theorem fits_fun:nFun.Fits:=⟨by decide,by decide,by decide,by decide,by decide,by decide,by decide⟩
end Go.Proofs.YtmejhedegmjboaaGreat
namespace Go.Proofs.YtmejhedegmjboaaGreat
open Go.RowKit
def zNd:Value:= .agg #[.int .u8 0,.int .i64 0,.string ByteArray.empty,.int .i64 0,.bool false,.int .u64 0,.bool false,.int .u64 0,.bool false,.int .u64 0]
theorem nd_inf:(Tryz.prog.info? 116).map (fun i=>(i.zero,i.size,i.bytes))=some (some zNd,10,88):=by kernel_rfl
theorem ndc_one (l:List Nd): ∀u∈l.flatMap ndc,u.oneCell'=true:=by
 intro u hu
 obtain⟨x,_,hx⟩:=List.mem_flatMap.1 hu
 simp only[ndc,List.mem_cons,List.not_mem_nil,or_false] at hx
 rcases hx with rfl|rfl|rfl|rfl|rfl|rfl|rfl|rfl|rfl|rfl <;> rfl
theorem wpList_append_nd {w:World}{ops:Array Oper}{rest:List Oper}{o:Oper}{a:Act}{Q:Exit→Act→World→Prop}(hgd:o.guard=none)(s x:Operand)
  (ho:o.op= .call {callee:= .builtin .append,args:= #[s,x],argTypes:= #[47,47]})
  (base:Nat) (v:Value) (n:Nat) (vs:List Nd) (hs:a.eval s=v) (hown:w.ownsRow base 116 10 v n (vs.flatMap ndc)) (B:Nat) (A:Option Addr) (m c:Nat) (ms:List Nd) (hx:a.eval x= .slice A m c) (hr:Ns w B A m c ms)
  (hsm:n+m≤100000) (hbase:base≤w.heap.size)
  (h: ∀A' k c' w',Hid (k=n+m)→Hid (Appended w w' base 116 10 v (.slice A' k c') k ((vs++ms).flatMap ndc))→wpList Tryz.prog ops Q rest (a.put o.dst (.slice A' k c')) w'):wpList Tryz.prog ops Q (o::rest) a w:=by
 obtain⟨i0,hi0,hz0,hz1,hz2⟩:=info_parts nd_inf
 have key: ∃v' w',(Builtin.append_ #[47,47] o.type #[v,.slice A m c]).run Tryz.prog w= .ok v' w'∧Appended w w' base 116 10 v v' (n+m) ((vs++ms).flatMap ndc):=by
  rcases A with _|ad
  ·have hc0:=hr.none0 rfl
   have hm0:m=0:=by have:=hr.cap;omega
   subst hc0
   subst hm0
   have hms:ms= []:=List.eq_nil_of_length_eq_zero hr.len
   subst hms
   exact⟨v,w,run_append_owned_none (P:=Tryz.prog) w base 47 o.type 116 i0 10 Tryz.underlying47 hi0 v n _ hown,⟨by simpa using hown,⟨rfl,rfl,rfl,Nat.le_refl _,fun _ _ _=>rfl⟩,.inl rfl⟩⟩
  ·have hcells: ∀j y,(ms.flatMap ndc)[j]?=some y→w.cell? (ad.add j)=some y:=by
    rcases Nat.eq_zero_or_pos m with h0|h0
    ·have hms:ms= []:=List.eq_nil_of_length_eq_zero (by rw[hr.len,h0])
     subst hms
     intro j u hu
     simp at hu
    ·obtain⟨b,q,hA,_,hc⟩:=hr.spot h0
     injection hA with hA
     subst hA
     exact Rs.cells ndc_len (by decide) hc
   have:=run_append_both (P:=Tryz.prog) w base 47 47 o.type 116 i0 _ 10 88 Tryz.underlying47 hi0 hz0 hz1 hz2 rfl (by decide) v n _ hown ad m c (ms.flatMap ndc) (by rw[flat_len ndc_len,hr.len]) hcells (ndc_one ms) (by unfold maxLen;omega) (by omega) hbase rfl
   rw[← List.flatMap_append] at this
   exact this
 obtain⟨v',w',hrun,h2⟩:=key
 obtain⟨A',c',rfl⟩:=rs_own_form h2.own
 refine wpList_plain hgd fun K hK=> ?_
 unfold Oper.wp execOp
 simp only[ho,resolve,invoke,builtin,Sem.run_bind,Sem.run_pure,Result.andThen_ok,List.map_toArray,List.map_cons,List.map_nil,hs,hx,hrun]
 exact hK _ _ (h A' (n+m) c' w' rfl h2)
theorem own_of_blk {w:World}{g base n:Nat}{cs:Array Value}{l:List Nd}(hg:w.heap[g]?=some (.cells cs 116 (0,0)))(hb:base≤g)(hcs:cs.toList=l.flatMap ndc)(hn:l.length=n)(hm:n≤maxLen):
  w.ownsRow base 116 10 (.slice (some ⟨g,0,none⟩) n n) n (l.flatMap ndc):=by
 have hl:(l.flatMap ndc).length=n*10:=by rw[flat_len ndc_len,hn]
 refine⟨hl,.inr ⟨g,n,cs,rfl,hb,hg,Nat.le_refl _,hm,?_,?_⟩⟩
 ·rw[← Array.length_toList,hcs,hl]
 ·rw[hcs,List.take_of_length_le (by rw[hl];exact Nat.le_refl _)]
theorem fits_cons {x:Nd}{l:List Nd}(h:x.Fits)(k: ∀y∈l,y.Fits): ∀y∈x::l,y.Fits:=by
 intro y hy
 rcases List.mem_cons.1 hy with rfl|hy
 ·exact h
 ·exact k y hy
theorem fits_nil: ∀y∈([]:List Nd),y.Fits:=by simp
theorem check_chk {l:List Nd}(h:checkB l=0):l≠ []∧l.length≤128∧chk l [1]=0:=by
 unfold checkB at h
 split at h
 ·cases h
 split at h
 ·cases h
 exact⟨by assumption,by omega,h⟩
end Go.Proofs.YtmejhedegmjboaaGreat
namespace Go.Proofs.YtmejhedegmjboaaGreat
open Go.ChangeShapes Go.WideShapes Go.ChangeAt Go.RowKit Go.Deep
theorem i64_fits {a:Int}(h:(Lit.int .i64 a).wf=true): -9223372036854775808≤a∧a≤9223372036854775807:=by
 have hb:IntKind.i64.min≤a∧a≤IntKind.i64.max:=by simpa [Lit.wf] using h
 have h1:IntKind.i64.min= -9223372036854775808:=rfl
 have h2:IntKind.i64.max=9223372036854775807:=rfl
 omega
theorem u64_fits {a:Int}(h:(Lit.int .u64 a).wf=true):0≤a∧a < 18446744073709551616:=by
 have hb:IntKind.u64.min≤a∧a≤IntKind.u64.max:=by simpa [Lit.wf] using h
 have e1:IntKind.u64.min=0:=by decide
 have e2:IntKind.u64.max=18446744073709551615:=by decide
 rw[e1,e2] at hb
 omega
structure U64 (z:Int):Prop where
 lo:0≤z
 hi:z < 18446744073709551616
theorem U64.nat {z:Int}(h:U64 z): ∃y:Nat,z=(y:Int)∧y < 18446744073709551616:=⟨z.toNat,by have:=h.lo;omega,by have:=h.lo;have:=h.hi;omega⟩
structure Nd.TFits (x:Nd):Prop where
 l:U64 x.ln
 p:U64 x.pn
 e:U64 x.en
theorem u8_fits {a:Int}(h:(Lit.int .u8 a).wf=true):0≤a∧a≤255:=by
 have hb:IntKind.u8.min≤a∧a≤IntKind.u8.max:=by simpa [Lit.wf] using h
 have h1:IntKind.u8.min=0:=rfl
 have h2:IntKind.u8.max=255:=rfl
 omega
theorem c36:Tryz.prog.cellsOf 116=10:=by kernel_rfl
theorem c34:Tryz.prog.cellsOf 62=2:=by kernel_rfl
theorem c31:Tryz.prog.cellsOf 114=1:=by kernel_rfl
theorem c3:Tryz.prog.cellsOf 3=1:=by kernel_rfl
theorem c9:Tryz.prog.cellsOf 9=1:=by kernel_rfl
theorem c4:Tryz.prog.cellsOf 4=1:=by kernel_rfl
theorem c32:Tryz.prog.cellsOf 60=1:=by kernel_rfl
theorem two_of {α:Type}: ∀{l:List α},l.length=2→ ∃a b,l= [a,b]
 | [a,b],_=>⟨a,b,rfl⟩
theorem ten_of {α:Type}: ∀{l:List α},l.length=10→ ∃a b c d e f g h i j,l= [a,b,c,d,e,f,g,h,i,j]
 | [a,b,c,d,e,f,g,h,i,j],_=>⟨a,b,c,d,e,f,g,h,i,j,rfl⟩
section
variable {H:Type} {enc:TypeId×Value→H} {W:World}
theorem open_term {n:Nat}{cs:List Value}{x:DataW H×List MemPlace}(h:DataW.trod enc Tryz.prog W 0 (fun _=>true) true n 62 cs=some x): ∃(b:Bool) (z:Int),cs= [.bool b,.int .u64 z]∧U64 z:=by
 obtain⟨xs,m,_,_,hl,hlen,hf⟩:=DataW.trod_struct Tryz.underlying62 h
 rw[c34] at hl
 match xs,hlen with
 | [y0,y1],_=>
  have h0:DataW.trod enc Tryz.prog W 0 (fun _=>true) true m 4 (List.take (Tryz.prog.cellsOf 4) (List.drop 0 cs))=some y0:=hf 0 _ rfl
  have h1:DataW.trod enc Tryz.prog W 0 (fun _=>true) true m 60 (List.take (Tryz.prog.cellsOf 60) (List.drop 1 cs))=some y1:=hf 1 _ rfl
  rw[c4] at h0
  rw[c32] at h1
  obtain⟨b,e0,_⟩:=DataW.trod_bool Tryz.underlying4 h0
  obtain⟨z,e1,_,wz⟩:=DataW.trod_int Tryz.underlying60 h1
  have hz:U64 z:=⟨(u64_fits wz).1,(u64_fits wz).2⟩
  obtain⟨u0,u1,rfl⟩:=two_of hl
  simp at e0 e1
  exact⟨b,z,by rw[e0,e1],hz⟩
theorem open_nd {n:Nat}{cs:List Value}{x:DataW H×List MemPlace}(h:DataW.trod enc Tryz.prog W 0 (fun _=>true) true n 116 cs=some x): ∃y:Nd,cs=ndc y∧y.Fits∧y.TFits:=by
 obtain⟨xs,m,_,_,hl,hlen,hf⟩:=DataW.trod_struct Tryz.underlying116 h
 rw[c36] at hl
 match xs,hlen with
 | [y0,y1,y2,y3,y4,y5,y6],_=>
  have h0:DataW.trod enc Tryz.prog W 0 (fun _=>true) true m 114 (List.take (Tryz.prog.cellsOf 114) (List.drop 0 cs))=some y0:=hf 0 _ rfl
  rw[c31] at h0
  have h1:DataW.trod enc Tryz.prog W 0 (fun _=>true) true m 3 (List.take (Tryz.prog.cellsOf 3) (List.drop 1 cs))=some y1:=hf 1 _ rfl
  rw[c3] at h1
  have h2:DataW.trod enc Tryz.prog W 0 (fun _=>true) true m 9 (List.take (Tryz.prog.cellsOf 9) (List.drop 2 cs))=some y2:=hf 2 _ rfl
  rw[c9] at h2
  have h3:DataW.trod enc Tryz.prog W 0 (fun _=>true) true m 3 (List.take (Tryz.prog.cellsOf 3) (List.drop 3 cs))=some y3:=hf 3 _ rfl
  rw[c3] at h3
  have h4:DataW.trod enc Tryz.prog W 0 (fun _=>true) true m 62 (List.take (Tryz.prog.cellsOf 62) (List.drop 4 cs))=some y4:=hf 4 _ rfl
  rw[c34] at h4
  have h5:DataW.trod enc Tryz.prog W 0 (fun _=>true) true m 62 (List.take (Tryz.prog.cellsOf 62) (List.drop 6 cs))=some y5:=hf 5 _ rfl
  rw[c34] at h5
  have h6:DataW.trod enc Tryz.prog W 0 (fun _=>true) true m 62 (List.take (Tryz.prog.cellsOf 62) (List.drop 8 cs))=some y6:=hf 6 _ rfl
  rw[c34] at h6
  obtain⟨k,e0,_,w0⟩:=DataW.trod_int Tryz.underlying114 h0
  obtain⟨md,e1,_,w1⟩:=DataW.trod_int Tryz.underlying3 h1
  obtain⟨s,e2,_,w2⟩:=DataW.trod_string Tryz.underlying9 h2
  obtain⟨nk,e3,_,w3⟩:=DataW.trod_int Tryz.underlying3 h3
  obtain⟨lv,ln,e4,t4⟩:=open_term h4
  obtain⟨pv,pn,e5,t5⟩:=open_term h5
  obtain⟨ev,en,e6,t6⟩:=open_term h6
  obtain⟨u0,u1,u2,u3,u4,u5,u6,u7,u8,u9,rfl⟩:=ten_of hl
  simp at e0 e1 e2 e3 e4 e5 e6
  obtain⟨f0,f1⟩:=u8_fits w0
  obtain⟨f2,f3⟩:=i64_fits w1
  obtain⟨f4,f5⟩:=i64_fits w3
  refine⟨⟨k,md,s.data.toList,nk,lv,ln,pv,pn,ev,en⟩,?_,⟨f0,f1,f2,f3,f4,f5,?_⟩,⟨t4,t5,t6⟩⟩
  ·simp only[ndc,txt,str_of]
   rw[e0,e1,e2,e3,e4.1,e4.2,e5.1,e5.2,e6.1,e6.2]
  ·show s.data.toList.length≤_
   rw[Array.length_toList]
   unfold maxLen at w2
   exact w2
theorem open_nodes {n:Nat}{cs:List Value}{x:DataW H×List MemPlace}(h:DataW.trod enc Tryz.prog W 0 (fun _=>true) true n 47 cs=some x):
  ∃(a0:Option Addr) (len0 cap0:Nat) (l:List Nd),cs= [.slice a0 len0 cap0]∧Ns W W.heap.size a0 len0 cap0 l∧(∀x∈l,x.Fits)∧ ∀x∈l,x.TFits:=by
 rcases open_slice Tryz.underlying47 h with⟨hcs,_⟩|⟨x,l,c,m,n,D,Pl,hcs,_,hl,hm,hmm,_,hx⟩
 ·exact⟨none,0,0,[],hcs,Rs.nil _ _,by simp,by simp⟩
 ·have hm':m=c:=by simpa using hmm
  subst hm'
  have each: ∀i,i < l→ ∃y:Nd,(y.Fits∧y.TFits)∧ ∀j u,(ndc y)[j]?=some u→W.cell? ((x.add (i*10)).add j)=some u:=by
   intro i hi
   obtain⟨cs',h1,h2⟩:=hx i (by omega)
   obtain⟨y,rfl,hy⟩:=open_nd h2
   rw[c36] at h1
   obtain⟨_,_,hc⟩:=World.cells?_some h1
   refine⟨y,hy,fun j u hu=> ?_⟩
   have hj:j < (ndc y).length:=(List.getElem?_eq_some_iff.1 hu).1
   have:=hc j (by rw[ndc_len] at hj;exact hj)
   rw[this]
   exact hu
  obtain⟨f,hf⟩: ∃f:Nat→Nd,∀i,i < l→((f i).Fits∧(f i).TFits)∧ ∀j u,(ndc (f i))[j]?=some u→W.cell? ((x.add (i*10)).add j)=some u:=
   ⟨fun i=>if h:i < l then Classical.choose (each i h) else⟨0,0,[],0,false,0,false,0,false,0⟩,fun i h=>by
    simp only[dif_pos h]
    exact Classical.choose_spec (each i h)⟩
  refine⟨some x,l,m,(List.range l).map f,hcs,⟨by simp,hl,hm,(fun h=>by cases h),fun h0=> ?_⟩,fun y hy=> ?_,fun y hy=> ?_⟩
  ·obtain⟨b,o,spot⟩:=x
   have hc0:=(hf 0 (by omega)).2 0 _ rfl
   have hspot:spot=none:=by simpa [Addr.add] using World.cell?_spot hc0
   subst hspot
   refine⟨b,o,rfl,?_,fun j hj i u hu=> ?_⟩
   ·exact World.block_lt_of_cell? W ⟨b,o,none⟩ (by simpa [Addr.add] using hc0)
   ·rw[List.length_map,List.length_range] at hj
    simp only[List.getElem_map,List.getElem_range] at hu
    have:=(hf j hj).2 i u hu
    rwa [Addr.add_lit,Addr.add_lit] at this
  ·obtain⟨i,hi,rfl⟩:=List.mem_map.1 hy
   exact(hf i (List.mem_range.1 hi)).1.1
  ·obtain⟨i,hi,rfl⟩:=List.mem_map.1 hy
   exact(hf i (List.mem_range.1 hi)).1.2
end
end Go.Proofs.YtmejhedegmjboaaGreat
namespace Go.Proofs.YtmejhedegmjboaaGreat
open Go.ChangeShapes Go.WideShapes Go.ChangeAt Go.RowKit Go.Deep
def tmc (t:Bool×Int):List Value:= [.bool t.1,.int .u64 t.2]
theorem tmc_len (t:Bool×Int):(tmc t).length=2:=rfl
theorem opened_terms {H:Type}{enc:TypeId×Value→H}{W:World}{a0:Option Addr}{len0 cap0:Nat}{d:DataW H}{p:List MemPlace}(h:DataW.Trod enc Tryz.prog W 0 (fun _=>true) true 29 (.slice a0 len0 cap0) d p):
  ∃l:List (Bool×Int),Rs tmc 2 W W.heap.size a0 len0 cap0 l:=by
 obtain⟨fuel,hf⟩:=h
 rcases open_slice Tryz.underlying29 hf with⟨hcs,_⟩|⟨x,l,c,m,n,D,Pl,hcs,_,hl,hm,hmm,_,hx⟩
 ·simp[Value.cells] at hcs
  obtain⟨rfl,rfl,rfl⟩:=hcs
  exact⟨[],Rs.nil _ _⟩
 ·simp[Value.cells] at hcs
  obtain⟨rfl,rfl,rfl⟩:=hcs
  have hm':m=cap0:=by simpa using hmm
  have each: ∀i,i < len0→ ∃y:Bool×Int,∀j u,(tmc y)[j]?=some u→W.cell? ((x.add (i*2)).add j)=some u:=by
   intro i hi
   obtain⟨cs',h1,h2⟩:=hx i (by omega)
   obtain⟨b,z,rfl,_⟩:=open_term h2
   rw[c34] at h1
   obtain⟨_,_,hc⟩:=World.cells?_some h1
   refine⟨(b,z),fun j u hu=> ?_⟩
   have hj:j < (tmc (b,z)).length:=(List.getElem?_eq_some_iff.1 hu).1
   have:=hc j (by rw[tmc_len] at hj;exact hj)
   rw[this]
   exact hu
  obtain⟨f,hf⟩: ∃f:Nat→Bool×Int,∀i,i < len0→ ∀j u,(tmc (f i))[j]?=some u→W.cell? ((x.add (i*2)).add j)=some u:=
   ⟨fun i=>if h:i < len0 then Classical.choose (each i h) else(false,0),fun i h=>by
    simp only[dif_pos h]
    exact Classical.choose_spec (each i h)⟩
  refine⟨(List.range len0).map f,⟨by simp,hl,hm,(fun h=>by cases h),fun h0=> ?_⟩⟩
  obtain⟨b,o,spot⟩:=x
  have hc0:=hf 0 (by omega) 0 _ rfl
  have hspot:spot=none:=by simpa [Addr.add] using World.cell?_spot hc0
  subst hspot
  refine⟨b,o,rfl,?_,fun j hj i u hu=> ?_⟩
  ·exact World.block_lt_of_cell? W ⟨b,o,none⟩ (by simpa [Addr.add] using hc0)
  ·rw[List.length_map,List.length_range] at hj
   simp only[List.getElem_map,List.getElem_range] at hu
   have:=hf j hj i u hu
   rwa [Addr.add_lit,Addr.add_lit] at this
theorem term_at {w:World}{B n c:Nat}{A:Option Addr}{l:List (Bool×Int)}(h:Rs tmc 2 w B A n c l){k:Nat}(hk:k < l.length): ∃b o,A=some ⟨b,o,none⟩∧b < B∧
  w.cell? ⟨b,o+k*2,none⟩=some (.bool l[k].1)∧w.cell? ⟨b,o+k*2+1,none⟩=some (.int .u64 l[k].2):=by
 obtain⟨b,o,e,hb,hc⟩:=h.spot (by have:=h.len;omega)
 have hc:=hc k hk
 exact⟨b,o,e,hb,hc 0 _ rfl,hc 1 _ rfl⟩
structure Alk (x y:Nd):Prop where
 k:x.k=y.k
 m:x.m=y.m
 s:x.s=y.s
 n:x.n=y.n
 may:x.may=y.may
theorem Alk.refl (x:Nd):Alk x x:=⟨rfl,rfl,rfl,rfl,rfl⟩
theorem chk_alk: ∀(a b:List Nd) (st:List Nat),a.length=b.length→(∀j (h:j < a.length) (h':j < b.length),Alk a[j] b[j])→chk a st=chk b st
 | [],[],_,_,_=>rfl
 | [],_::_,_,h,_=>by simp at h
 |_::_,[],_,h,_=>by simp at h
 |x::a,y::b,[],_,_=>rfl
 |x::a,y::b,d::st,h,hj=>by
  have h0:Alk x y:=hj 0 (by simp) (by simp)
  have hr: ∀st,chk a st=chk b st:=fun st=>chk_alk a b st (by simpa using h) fun j h1 h2=>hj (j+1) (by simpa using h1) (by simpa using h2)
  rw[chk_one,chk_one,h0.may,h0.n,hr]
  unfold opens
  rw[h0.n]
theorem check_alk {a b:List Nd}(h:a.length=b.length)(hj: ∀j (h:j < a.length) (h':j < b.length),Alk a[j] b[j]):checkB a=checkB b:=by
 unfold checkB
 rw[chk_alk a b [1] h hj]
 by_cases h0:a= []
 ·have:b= []:=List.eq_nil_of_length_eq_zero (by rw[← h,h0];rfl)
  rw[if_pos h0,if_pos this]
 ·have:b≠ []:=by rintro rfl;exact h0 (List.eq_nil_of_length_eq_zero (by rw[h];rfl))
  rw[if_neg h0,if_neg this,h]
def withL (x:Nd)(t:Bool×Int):Nd:={x with lv:=t.1,ln:=t.2}
theorem alk_L (x:Nd)(t:Bool×Int):Alk x (withL x t):=⟨rfl,rfl,rfl,rfl,rfl⟩
theorem set_cells {l:List Nd}{k:Nat}(h:k < l.length){u:Value}{i:Nat}(hi:i < 10){y:Nd}(hy:ndc y=(ndc l[k]).set i u){tl:List Value}:
  (l.flatMap ndc++tl).set (k*10+i) u=(l.set k y).flatMap ndc++tl:=by
 have h10:(l.flatMap ndc).length=l.length*10:=flat_len ndc_len l
 rw[List.set_append_left _ _ (by rw[h10];omega)]
 congr 1
 induction l generalizing k with
 |nil=>simp at h
 |cons x l ih=>
  cases k with
  |zero=>
   simp only[List.getElem_cons_zero] at hy
   rw[List.set_cons_zero,List.flatMap_cons,List.flatMap_cons,hy,Nat.zero_mul,Nat.zero_add,List.set_append_left _ _ (by rw[ndc_len];exact hi)]
  |succ k=>
   simp only[List.getElem_cons_succ] at hy
   rw[List.set_cons_succ,List.flatMap_cons,List.flatMap_cons,List.set_append_right _ _ (by rw[ndc_len,Nat.add_mul];omega),ndc_len,show(k+1)*10+i - 10=k*10+i by rw[Nat.add_mul];omega]
   rw[ih (by simpa using h) hy (flat_len ndc_len l)]
theorem own_set {w:World}{base g n c:Nat}{l:List Nd}(h:w.ownsRow base 116 10 (.slice (some ⟨g,0,none⟩) n c) n (l.flatMap ndc)){k:Nat}(hk:k < l.length){u:Value}{i:Nat}(hi:i < 10){y:Nd}(hy:ndc y=(ndc l[k]).set i u):
  (w.setCell ⟨g,k*10+i,none⟩ u).ownsRow base 116 10 (.slice (some ⟨g,0,none⟩) n c) n ((l.set k y).flatMap ndc):=by
 have hl:(l.flatMap ndc).length=l.length*10:=flat_len ndc_len l
 have hn:l.length=n:=rs_own_len ndc_len (by decide) h
 rcases h.2 with⟨hv,_⟩|⟨g',cap,cur,hv,hb,hg,hnc,hcm,hcs,htake⟩
 ·cases hv
 ·injection hv with h1 h2 h3
  injection h1 with h1
  injection h1 with h1
  subst h1
  subst h3
  refine⟨by rw[flat_len ndc_len,List.length_set,hn],.inr ⟨g,c,cur.setIfInBounds (k*10+i) u,rfl,hb,set_blk hg u,hnc,hcm,by simpa using hcs,?_⟩⟩
  rw[Array.toList_setIfInBounds,List.take_set,htake]
  have:=set_cells hk hi hy (tl:= [])
  simpa using this
theorem own_node {w:World}{base n c:Nat}{A:Option Addr}{l:List Nd}(h:w.ownsRow base 116 10 (.slice A n c) n (l.flatMap ndc)){k:Nat}(hk:k < l.length):
  ∃g,A=some ⟨g,0,none⟩∧base≤g∧g < w.heap.size∧(∀i u,(ndc l[k])[i]?=some u→w.cell? ⟨g,k*10+i,none⟩=some u)∧ ∀i,w.frozen? ⟨g,i,none⟩=false:=by
 rcases h.2 with⟨hv,hn⟩|⟨g,cap,cur,hv,hb,hg,hnc,hcm,hcs,htake⟩
 ·have:=rs_own_len ndc_len (by decide) h
  omega
 ·injection hv with h1 h2 h3
  subst h1
  refine⟨g,rfl,hb,lt_blk hg,fun i u hu=> ?_,fun i=>frozen_blk hg⟩
  have hi:i < 10:=by
   have:=(List.getElem?_eq_some_iff.1 hu).1
   rwa [ndc_len] at this
  have:=h.cells (g:=g) rfl (k*10+i) u (by rw[flat_get ndc_len l k hk i hi];exact hu)
  rwa [Addr.add_lit,Nat.zero_add] at this
end Go.Proofs.YtmejhedegmjboaaGreat
