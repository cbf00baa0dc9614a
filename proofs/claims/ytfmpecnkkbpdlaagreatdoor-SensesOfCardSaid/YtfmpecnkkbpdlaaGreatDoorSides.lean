import Derived.ProofKit
import Derived.OpenShut
import Derived.ShutString
import Derived.ChangeOld
import Derived.Deep.Slices
import Derived.Shelf.RegionOpen
import Derived.Test.YtfmpecnkkbpdlaaGreatDoorDepths
import Derived.Test.YtfmpecnkkbpdlaaGreatDoorRange
import Derived.Test.YtfmpecnkkbpdlaaGreatDoorRefName
import Derived.Test.YtfmpecnkkbpdlaaGreatDoorTwinNd
set_option maxRecDepth 100000
set_option maxHeartbeats 2000000
namespace Go.Proofs.YtfmpecnkkbpdlaaGreatDoor
open Go.ChangeShapes Go.WideShapes Go.ChangeAt Go.RowKit Go.Deep
theorem Zdh {a:Int}(h:(Lit.int .i64 a).wf=true): -9223372036854775808≤a∧a≤9223372036854775807:=by
 have hb:IntKind.i64.min≤a∧a≤IntKind.i64.max:=by simpa [Lit.wf] using h
 have h1:IntKind.i64.min= -9223372036854775808:=rfl
 have h2:IntKind.i64.max=9223372036854775807:=rfl
 omega
theorem Zdi {a:Int}(h:(Lit.int .u64 a).wf=true):0≤a∧a < 18446744073709551616:=by
 have hb:IntKind.u64.min≤a∧a≤IntKind.u64.max:=by simpa [Lit.wf] using h
 have e1:IntKind.u64.min=0:=by decide
 have e2:IntKind.u64.max=18446744073709551615:=by decide
 rw[e1,e2] at hb
 omega
structure U64 (z:Int):Prop where
 lo:0≤z
 hi:z < 18446744073709551616
theorem U64.nat {z:Int}(h:U64 z): ∃y:Nat,z=(y:Int)∧y < 18446744073709551616:=⟨z.toNat,by have:=h.lo;omega,by have:=h.lo;have:=h.hi;omega⟩
structure Nd.TFits (x:Nd):Prop where
 l:U64 x.ln
 p:U64 x.pn
 e:U64 x.en
theorem ZjA {a:Int}(h:(Lit.int .u8 a).wf=true):0≤a∧a≤255:=by
 have hb:IntKind.u8.min≤a∧a≤IntKind.u8.max:=by simpa [Lit.wf] using h
 have h1:IntKind.u8.min=0:=rfl
 have h2:IntKind.u8.max=255:=rfl
 omega
theorem c36:Tryz.prog.cellsOf 77=10:=by kernel_rfl
theorem c34:Tryz.prog.cellsOf 74=2:=by kernel_rfl
theorem c31:Tryz.prog.cellsOf 71=1:=by kernel_rfl
theorem c3:Tryz.prog.cellsOf 3=1:=by kernel_rfl
theorem c9:Tryz.prog.cellsOf 9=1:=by kernel_rfl
theorem c4:Tryz.prog.cellsOf 4=1:=by kernel_rfl
theorem c32:Tryz.prog.cellsOf 72=1:=by kernel_rfl
theorem Zdj {α:Type}: ∀{l:List α},l.length=2→ ∃a b,l= [a,b]
 | [a,b],_=>⟨a,b,rfl⟩
theorem ZkE {α:Type}: ∀{l:List α},l.length=10→ ∃a b c d e f g h i j,l= [a,b,c,d,e,f,g,h,i,j]
 | [a,b,c,d,e,f,g,h,i,j],_=>⟨a,b,c,d,e,f,g,h,i,j,rfl⟩
section
variable {H:Type} {enc:TypeId×Value→H} {W:World}
theorem VZ {n:Nat}{cs:List Value}{x:DataW H×List MemPlace}(h:DataW.trod enc Tryz.prog W 0 (fun _=>true) true n 74 cs=some x): ∃(b:Bool) (z:Int),cs= [.bool b,.int .u64 z]∧U64 z:=by
 obtain⟨xs,m,_,_,hl,hlen,hf⟩:=DataW.trod_struct Tryz.underlying74 h
 rw[c34] at hl
 match xs,hlen with
 | [y0,y1],_=>
  have h0:DataW.trod enc Tryz.prog W 0 (fun _=>true) true m 4 (List.take (Tryz.prog.cellsOf 4) (List.drop 0 cs))=some y0:=hf 0 _ rfl
  have h1:DataW.trod enc Tryz.prog W 0 (fun _=>true) true m 72 (List.take (Tryz.prog.cellsOf 72) (List.drop 1 cs))=some y1:=hf 1 _ rfl
  rw[c4] at h0
  rw[c32] at h1
  obtain⟨b,e0,_⟩:=DataW.trod_bool Tryz.underlying4 h0
  obtain⟨z,e1,_,wz⟩:=DataW.trod_int Tryz.underlying72 h1
  have hz:U64 z:=⟨(Zdi wz).1,(Zdi wz).2⟩
  obtain⟨u0,u1,rfl⟩:=Zdj hl
  simp at e0 e1
  exact⟨b,z,by rw[e0,e1],hz⟩
theorem ZjB {n:Nat}{cs:List Value}{x:DataW H×List MemPlace}(h:DataW.trod enc Tryz.prog W 0 (fun _=>true) true n 77 cs=some x): ∃y:Nd,cs=ndc y∧y.Fits∧y.TFits:=by
 obtain⟨xs,m,_,_,hl,hlen,hf⟩:=DataW.trod_struct Tryz.underlying77 h
 rw[c36] at hl
 match xs,hlen with
 | [y0,y1,y2,y3,y4,y5,y6],_=>
  have h0:DataW.trod enc Tryz.prog W 0 (fun _=>true) true m 71 (List.take (Tryz.prog.cellsOf 71) (List.drop 0 cs))=some y0:=hf 0 _ rfl
  rw[c31] at h0
  have h1:DataW.trod enc Tryz.prog W 0 (fun _=>true) true m 3 (List.take (Tryz.prog.cellsOf 3) (List.drop 1 cs))=some y1:=hf 1 _ rfl
  rw[c3] at h1
  have h2:DataW.trod enc Tryz.prog W 0 (fun _=>true) true m 9 (List.take (Tryz.prog.cellsOf 9) (List.drop 2 cs))=some y2:=hf 2 _ rfl
  rw[c9] at h2
  have h3:DataW.trod enc Tryz.prog W 0 (fun _=>true) true m 3 (List.take (Tryz.prog.cellsOf 3) (List.drop 3 cs))=some y3:=hf 3 _ rfl
  rw[c3] at h3
  have h4:DataW.trod enc Tryz.prog W 0 (fun _=>true) true m 74 (List.take (Tryz.prog.cellsOf 74) (List.drop 4 cs))=some y4:=hf 4 _ rfl
  rw[c34] at h4
  have h5:DataW.trod enc Tryz.prog W 0 (fun _=>true) true m 74 (List.take (Tryz.prog.cellsOf 74) (List.drop 6 cs))=some y5:=hf 5 _ rfl
  rw[c34] at h5
  have h6:DataW.trod enc Tryz.prog W 0 (fun _=>true) true m 74 (List.take (Tryz.prog.cellsOf 74) (List.drop 8 cs))=some y6:=hf 6 _ rfl
  rw[c34] at h6
  obtain⟨k,e0,_,w0⟩:=DataW.trod_int Tryz.underlying71 h0
  obtain⟨md,e1,_,w1⟩:=DataW.trod_int Tryz.underlying3 h1
  obtain⟨s,e2,_,w2⟩:=DataW.trod_string Tryz.underlying9 h2
  obtain⟨nk,e3,_,w3⟩:=DataW.trod_int Tryz.underlying3 h3
  obtain⟨lv,ln,e4,t4⟩:=VZ h4
  obtain⟨pv,pn,e5,t5⟩:=VZ h5
  obtain⟨ev,en,e6,t6⟩:=VZ h6
  obtain⟨u0,u1,u2,u3,u4,u5,u6,u7,u8,u9,rfl⟩:=ZkE hl
  simp at e0 e1 e2 e3 e4 e5 e6
  obtain⟨f0,f1⟩:=ZjA w0
  obtain⟨f2,f3⟩:=Zdh w1
  obtain⟨f4,f5⟩:=Zdh w3
  refine⟨⟨k,md,s.data.toList,nk,lv,ln,pv,pn,ev,en⟩,?_,⟨f0,f1,f2,f3,f4,f5,?_⟩,⟨t4,t5,t6⟩⟩
  ·simp only[ndc,txt,ZkM]
   rw[e0,e1,e2,e3,e4.1,e4.2,e5.1,e5.2,e6.1,e6.2]
  ·show s.data.toList.length≤_
   rw[Array.length_toList]
   unfold maxLen at w2
   exact w2
theorem Zec {n:Nat}{cs:List Value}{x:DataW H×List MemPlace}(h:DataW.trod enc Tryz.prog W 0 (fun _=>true) true n 25 cs=some x):
  ∃(a0:Option Addr) (len0 cap0:Nat) (l:List Nd),cs= [.slice a0 len0 cap0]∧Ns W W.heap.size a0 len0 cap0 l∧(∀x∈l,x.Fits)∧ ∀x∈l,x.TFits:=by
 rcases open_slice Tryz.underlying25 h with⟨hcs,_⟩|⟨x,l,c,m,n,D,Pl,hcs,_,hl,hm,hmm,_,hx⟩
 ·exact⟨none,0,0,[],hcs,Rs.nil _ _,by simp,by simp⟩
 ·have hm':m=c:=by simpa using hmm
  subst hm'
  have each: ∀i,i < l→ ∃y:Nd,(y.Fits∧y.TFits)∧ ∀j u,(ndc y)[j]?=some u→W.cell? ((x.add (i*10)).add j)=some u:=by
   intro i hi
   obtain⟨cs',h1,h2⟩:=hx i (by omega)
   obtain⟨y,rfl,hy⟩:=ZjB h2
   rw[c36] at h1
   obtain⟨_,_,hc⟩:=World.cells?_some h1
   refine⟨y,hy,fun j u hu=> ?_⟩
   have hj:j < (ndc y).length:=(List.getElem?_eq_some_iff.1 hu).1
   have:=hc j (by rw[U4] at hj;exact hj)
   rw[this]
   exact hu
  obtain⟨f,hf⟩: ∃f:Nat→Nd,∀i,i < l→((f i).Fits∧(f i).TFits)∧ ∀j u,(ndc (f i))[j]?=some u→W.cell? ((x.add (i*10)).add j)=some u:=
   ⟨fun i=>if h:i < l then Classical.choose (each i h) else⟨0,0,[],0,false,0,false,0,false,0⟩,fun i h=>by
    simp only[dif_pos h]
    exact Classical.choose_spec (each i h)⟩
  refine⟨some x,l,m,(List.range l).map f,hcs,⟨by simp,hl,hm,(fun h=>by cases h),fun h0=> ?_⟩,fun y hy=> ?_,fun y hy=> ?_⟩
  ·obtain⟨b,o,spot⟩:=x
   have hc0:=(hf 0 (by omega)).2 0 _ rfl
   have hspot:spot=none:=by simpa [Addr.add] using World.cell?_spot hc0
   subst hspot
   refine⟨b,o,rfl,?_,fun j hj i u hu=> ?_⟩
   ·exact World.block_lt_of_cell? W ⟨b,o,none⟩ (by simpa [Addr.add] using hc0)
   ·rw[List.length_map,List.length_range] at hj
    simp only[List.getElem_map,List.getElem_range] at hu
    have:=(hf j hj).2 i u hu
    rwa [Addr.add_lit,Addr.add_lit] at this
  ·obtain⟨i,hi,rfl⟩:=List.mem_map.1 hy
   exact(hf i (List.mem_range.1 hi)).1.1
  ·obtain⟨i,hi,rfl⟩:=List.mem_map.1 hy
   exact(hf i (List.mem_range.1 hi)).1.2
end
end Go.Proofs.YtfmpecnkkbpdlaaGreatDoor
namespace Go.Proofs.YtfmpecnkkbpdlaaGreatDoor
open Go.ChangeShapes Go.WideShapes Go.ChangeAt Go.RowKit Go.Deep
end Go.Proofs.YtfmpecnkkbpdlaaGreatDoor
namespace Go.Proofs.YtfmpecnkkbpdlaaGreatDoor
def VB (s:Nat):Nat:=if s=0 then 1 else if s=1 then 0 else 2
theorem ZeO (s:Nat):VB s≤2:=by unfold VB;split <;> (try split) <;> omega
def Zo (x:Nd)(s:Nat):List Nat:=if x.k=4 then [2] else if x.k=5 then [VB s,s] else List.replicate x.n.toNat s
theorem VU {x:Nd}(s:Nat)(h:x.may=true):(Zo x s).length=x.n.toNat:=by
 unfold Nd.may at h
 unfold Zo
 by_cases h4:x.k=4
 ·rw[if_neg (by omega),if_neg (by omega),if_neg (by omega),if_pos h4] at h
  simp at h
  rw[if_pos h4,h.1.2]
  rfl
 by_cases h5:x.k=5
 ·rw[if_neg (by omega),if_neg (by omega),if_neg (by omega),if_neg h4,if_pos h5] at h
  simp at h
  rw[if_neg h4,if_pos h5,h.2]
  rfl
 rw[if_neg h4,if_neg h5,List.length_replicate]
theorem below_le {x:Nd}{s:Nat}(h:s≤2): ∀y∈Zo x s,y≤2:=by
 intro y hy
 unfold Zo at hy
 split at hy
 ·simp at hy;omega
 split at hy
 ·simp at hy
  rcases hy with rfl|rfl
  ·exact ZeO s
  ·exact h
 ·rw[List.eq_of_mem_replicate hy];exact h
def sds:List Nd→List Nat→List Nat
 | [],_=> []
 |_::_,[]=> []
 |x::l,s::st=>s::sds l (Zo x s++st)
theorem ZeP: ∀(l:List Nd) (st dst:List Nat),st.length=dst.length→chk l dst=0→(sds l st).length=l.length
 | [],_,_,_,_=>rfl
 |_::_,st,[],h,k=>by simp[chk] at k
 |_::_,[],_::_,h,_=>by simp at h
 |x::l,s::st,d::dst,h,k=>by
  rw[Zfu] at k
  split at k
  ·rename_i hm
   split at k
   ·cases k
   ·simp only[sds,List.length_cons]
    rw[ZeP l _ _ ?_ k]
    unfold opens
    rw[List.length_append,List.length_append,VU s hm,List.length_replicate]
    simpa using h
  ·cases k
def F.sd:F→List Nat→List Nat
 | .nil,_=> []
 | .cons _ _ _,[]=> []
 | .cons x ks r,s::ss=>s::(ks.sd (Zo x s)++r.sd ss)
theorem F.sd_len: ∀(f:F) (ss:List Nat),f.wf→ss.length=f.num→(f.sd ss).length=f.flat.length
 | .nil,_,_,_=>rfl
 | .cons _ _ _,[],_,h=>by simp[F.num] at h
 | .cons x ks r,s::ss,⟨h1,h2,h3,h4,h5⟩,h=>by
  simp only[F.num,List.length_cons,Nat.add_right_cancel_iff] at h
  simp only[F.sd,F.flat,List.length_cons,List.length_append]
  rw[F.sd_len ks _ h4 (by rw[VU s h1];omega),F.sd_len r ss h5 h]
theorem Zac: ∀(f:F) (ss:List Nat) (l:List Nd) (st:List Nat),f.wf→ss.length=f.num→sds (f.flat++l) (ss++st)=f.sd ss++sds l st
 | .nil,ss,l,st,_,h=>by
  have:ss= []:=List.eq_nil_of_length_eq_zero h
  subst this
  rfl
 | .cons _ _ _,[],_,_,_,h=>by simp[F.num] at h
 | .cons x ks r,s::ss,l,st,⟨h1,h2,h3,h4,h5⟩,h=>by
  simp only[F.num,List.length_cons,Nat.add_right_cancel_iff] at h
  simp only[F.flat,List.cons_append,sds,F.sd,List.append_assoc,List.cons.injEq,true_and]
  rw[Zac ks (Zo x s) (r.flat++l) (ss++st) h4 (by rw[VU s h1];omega),Zac r ss l st h5 h]
theorem ZeQ: ∀(l:List Nd) (st:List Nat),(∀y∈st,y≤2)→ ∀y∈sds l st,y≤2
 | [],_,_,y,h=>by simp[sds] at h
 |_::_,[],_,y,h=>by simp[sds] at h
 |x::l,s::st,hs,y,h=>by
  simp only[sds,List.mem_cons] at h
  rcases h with rfl|h
  ·exact hs _ List.mem_cons_self
  ·refine ZeQ l _ (fun z hz=> ?_) y h
   rcases List.mem_append.1 hz with hz|hz
   ·exact below_le (hs s List.mem_cons_self) z hz
   ·exact hs z (List.mem_cons_of_mem _ hz)
structure Sp where
 n:Nat
 p:Nat
 s:Nat
 v:Bool
 z:Int
def labS (k:Nat)(x:Nd)(s:Nat):List Sp:=⟨k,0,s,x.lv,x.ln⟩::(if x.k=5 then [⟨k,1,VB s,x.pv,x.pn⟩] else [])
def effS (k:Nat)(x:Nd)(s:Nat):List Sp:=if x.k=5 then [⟨k,2,s,x.ev,x.en⟩] else []
def lab:Nat→List Nd→List Nat→List Sp
 |_,[],_=> []
 |_,_::_,[]=> []
 |k,x::l,s::ss=>labS k x s++lab (k+1) l ss
def eff:Nat→List Nd→List Nat→List Sp
 |_,[],_=> []
 |_,_::_,[]=> []
 |k,x::l,s::ss=>effS k x s++eff (k+1) l ss
def labB (l:List Nd):List Sp:=if Zt l=0 then lab 0 l (sds l [0]) else []
def effB (l:List Nd):List Sp:=if Zt l=0 then eff 0 l (sds l [0]) else []
theorem ZeR: ∀(a b:List Nd) (k:Nat) (sa sb:List Nat),sa.length=a.length→lab k (a++b) (sa++sb)=lab k a sa++lab (k+a.length) b sb
 | [],b,k,sa,sb,h=>by
  have:sa= []:=List.eq_nil_of_length_eq_zero h
  subst this
  rfl
 |x::a,b,k,[],sb,h=>by simp at h
 |x::a,b,k,s::sa,sb,h=>by
  simp only[List.cons_append,lab,List.append_assoc,List.length_cons]
  rw[ZeR a b (k+1) sa sb (by simpa using h),show k+1+a.length=k+(a.length+1) by omega]
theorem ZeS: ∀(a b:List Nd) (k:Nat) (sa sb:List Nat),sa.length=a.length→eff k (a++b) (sa++sb)=eff k a sa++eff (k+a.length) b sb
 | [],b,k,sa,sb,h=>by
  have:sa= []:=List.eq_nil_of_length_eq_zero h
  subst this
  rfl
 |x::a,b,k,[],sb,h=>by simp at h
 |x::a,b,k,s::sa,sb,h=>by
  simp only[List.cons_append,eff,List.append_assoc,List.length_cons]
  rw[ZeS a b (k+1) sa sb (by simpa using h),show k+1+a.length=k+(a.length+1) by omega]
theorem Kv (k:Nat)(x:Nd)(s:Nat):1≤(labS k x s).length∧(labS k x s).length≤2:=by
 unfold labS
 split <;> simp
theorem Kw (k:Nat)(x:Nd)(s:Nat):(effS k x s).length≤1:=by
 unfold effS
 split <;> simp
theorem YB: ∀(l:List Nd) (k:Nat) (ss:List Nat),(lab k l ss).length≤2*l.length
 | [],_,_=>by simp[lab]
 |_::_,_,[]=>by simp[lab]
 |x::l,k,s::ss=>by
  have:=(Kv k x s).2
  have:=YB l (k+1) ss
  simp only[lab,List.length_append,List.length_cons]
  omega
theorem YC: ∀(l:List Nd) (k:Nat) (ss:List Nat),(eff k l ss).length≤l.length
 | [],_,_=>by simp[eff]
 |_::_,_,[]=>by simp[eff]
 |x::l,k,s::ss=>by
  have:=Kw k x s
  have:=YC l (k+1) ss
  simp only[eff,List.length_append,List.length_cons]
  omega
theorem VV {l:List Nd}(h:Zt l=0):0 < l.length∧l.length≤128:=by
 obtain⟨h1,h2,_⟩:=Qe h
 exact⟨List.length_pos_iff.2 h1,h2⟩
theorem Zbl {l:List Nd}(h:Zt l=0):(sds l [0]).length=l.length:=ZeP l [0] [1] rfl (Qe h).2.2
theorem Ua (l:List Nd):(labB l).length≤256:=by
 unfold labB
 split
 ·have:=YB l 0 (sds l [0]);have:=VV (by assumption);omega
 ·simp
theorem Ub (l:List Nd):(effB l).length≤128:=by
 unfold effB
 split
 ·have:=YC l 0 (sds l [0]);have:=VV (by assumption);omega
 ·simp
abbrev Tm:=Bool×Int
end Go.Proofs.YtfmpecnkkbpdlaaGreatDoor
namespace Go.Proofs.YtfmpecnkkbpdlaaGreatDoor
open Go.RowKit
def sc (s:Nat):Value:= .int .u8 (s:Int)
theorem Ze1 (w:World)(o:Obj){g:Nat}(h:g=w.heap.size):(w.alloc o).heap[g]?=some o:=by subst h;exact heap_alloc_new w o
theorem Zie {α:Type}{enc:α→Value}{W:World}{g n:Nat}{cs:Array Value}{E:TypeId}{l:List α}(hg:W.heap[g]?=some (.cells cs E (0,0)))(hcs:cs.toList=l.map enc)(hn:l.length=n)(hm:n≤maxLen):Rd enc W W.heap.size (some ⟨g,0,none⟩) n n l:=by
 refine⟨hn,Nat.le_refl _,hm,(fun h=>by cases h),fun _=>⟨g,0,rfl,Zd hg,fun j hj=> ?_⟩⟩
 rw[Za hg, ← Array.getElem?_toList,hcs]
 simp[hj]
theorem Zkr (s:Nat):(sc s).oneCell'=true:=rfl
theorem Ve (s:Nat)(w:World):Calls Tryz.prog 107 #[.int .u8 (s:Int)] w fun e w'=>e= .returned (.int .u8 (VB s:Int))∧w=w':=by
 by_cases h0:s=0
 ·subst h0
  go_enter Tryz.func107,Tryz.ntmps107
  go_wp2
  go_ret
  exact⟨rfl,rfl⟩
 have h0':((s:Int)==0)=false:=by simp;omega
 by_cases h1:s=1
 ·subst h1
  go_enter Tryz.func107,Tryz.ntmps107
  go_wp2
  go_ret
  exact⟨rfl,rfl⟩
 have h1':((s:Int)==1)=false:=by simp;omega
 have HT:Hid (VB s=2):=Hd (by unfold VB;rw[if_neg h0,if_neg h1])
 go_enter Tryz.func107,Tryz.ntmps107
 go_wp2
 go_ret
 exact⟨by rw[HT.out];rfl,rfl⟩
theorem VT (x:Nd)(s:Nat)(w:World)(h0:0≤x.n)(h8:x.n≤8):
  Calls Tryz.prog 188 #[ndv x,.int .u8 (s:Int)] w fun e w'=> ∃A n c,e= .returned (.slice A n c)∧Rd sc w' w'.heap.size A n c (Zo x s).reverse∧Below w.heap.size w w':=by
 have HB:Hid (Zo x s=if x.k=4 then [2] else if x.k=5 then [VB s,s] else List.replicate x.n.toNat s):=Hd rfl
 unfold ndv
 obtain⟨xk,xm,xs,xn,xlv,xln,xpv,xpn,xev,xen⟩:=x
 simp only at h0 h8 HB ⊢
 obtain⟨q,rfl⟩:=Int.eq_ofNat_of_zero_le h0
 have hal:Below w.heap.size w (w.alloc (.cells #[.int .u8 xk,.int .i64 xm,.string (str xs),.int .i64 (q:Int),.bool xlv,.int .u64 xln,.bool xpv,.int .u64 xpn,.bool xev,.int .u64 xen] 77)):=bA
 by_cases h4:xk=4
 ·subst h4
  rw[if_pos rfl] at HB
  go_enter Tryz.func188,Tryz.ntmps188
  go_wp2
  go_ret
  refine⟨_,_,_,rfl,?_,hal.alloc hal.size _⟩
  rw[HB.out]
  exact Zie (Ze1 _ _ (by simp)) rfl rfl (by unfold maxLen;omega)
 have h4':(xk==4)=false:=by simpa using h4
 rw[if_neg h4] at HB
 by_cases h5:xk=5
 ·subst h5
  rw[if_pos rfl] at HB
  go_enter Tryz.func188,Tryz.ntmps188
  go_wp2_with fail
  refine(Ve s _).mono ?_
  rintro e w1 ⟨rfl,rfl⟩
  go_wp2_with fail
  go_ret
  refine⟨_,_,_,rfl,?_,hal.alloc hal.size _⟩
  rw[HB.out]
  exact Zie (Ze1 _ _ (by simp)) rfl rfl (by unfold maxLen;omega)
 have h5':(xk==5)=false:=by simpa using h5
 rw[if_neg h5,Int.toNat_natCast] at HB
 have HAL:=Hd hal
 clear hal
 go_enter Tryz.func188,Tryz.ntmps188
 go_wp2_with fail
 refine(Zce (w.heap.size+1) 0 1 (s:Int) q _ (by omega) ?_ ?_).mono ?_
 ·simp
 ·rw[World.cell?_alloc_at _ _ _ _ (by simp)]
  rfl
 rintro e w6 ⟨g,rfl,hg,hb⟩
 go_wp2_with fail
 go_ret
 refine⟨_,_,_,rfl,?_,?_⟩
 ·rw[HB.out,List.reverse_replicate]
  refine⟨List.length_replicate,Nat.le_refl _,by unfold maxLen;omega,(fun h=>by cases h),fun h=>⟨g,0,rfl,Zd hg,fun j hj=> ?_⟩⟩
  rw[Za hg]
  simp only[List.length_replicate] at hj
  simp[sc,hj]
 ·have h1:=HAL.out.alloc HAL.out.size (.cells #[.int .u8 (s:Int)] 117)
  exact h1.trans (hb.mono h1.size)
end Go.Proofs.YtfmpecnkkbpdlaaGreatDoor
namespace Go.Proofs.YtfmpecnkkbpdlaaGreatDoor
open Go.RowKit
def po (p:Nat):Nat:=if p=0 then 4 else if p=1 then 6 else 8
def Nd.tm (x:Nd)(p:Nat):Tm:=if p=0 then(x.lv,x.ln) else if p=1 then(x.pv,x.pn) else(x.ev,x.en)
theorem Zbp (A:Option Addr)(m c:Nat)(w:World):Calls Tryz.prog 104 #[.slice A m c] w fun e w'=>e= .returned (.func (.func 186) #[] #[.pointer (some ⟨w.heap.size,0,none⟩)])∧w'=w.alloc (.cells #[.slice A m c] 25):=by
 go_enter Tryz.func104,Tryz.ntmps104
 go_wp2
 go_ret
 exact⟨rfl,rfl⟩
theorem ZdY (k p Bf B:Nat)(A:Option Addr)(m c:Nat)(l:List Nd)(w:World)(hcell:w.cell? ⟨Bf,0,none⟩=some (.slice A m c))(hr:Ns w B A m c l)(hk:k < l.length)(hp:p≤2):
  Calls Tryz.prog 186 #[.int .i64 (k:Int),.int .u8 (p:Int),.pointer (some ⟨Bf,0,none⟩)] w fun e w'=>(∃b o,A=some ⟨b,o,none⟩∧e= .returned (.pointer (some ⟨b,o+k*10+po p,none⟩)))∧w=w':=by
 have hl:=hr.len
 have hcap:=hr.cap
 have htop:=hr.top
 unfold maxLen at htop
 obtain⟨b,o,rfl,hbb,-⟩:=hr.node hk
 rw[hl] at hk
 clear hr
 have h:p=0∨p=1∨p=2:=by omega
 clear hp
 rcases h with rfl|rfl|rfl
 all_goals(
  go_enter Tryz.func186,Tryz.ntmps186
  go_wp2
  go_ret
  exact⟨⟨b,o,rfl,rfl⟩,rfl⟩)
def spv (q:Sp):Value:= .agg #[.int .i64 (q.n:Int),.int .u8 (q.p:Int),.int .u8 (q.s:Int),.bool q.v,.int .u64 q.z]
def spc (q:Sp):List Value:= [.int .i64 (q.n:Int),.int .u8 (q.p:Int),.int .u8 (q.s:Int),.bool q.v,.int .u64 q.z]
theorem Zu (q:Sp):(spc q).length=5:=rfl
theorem Zja {w:World}{B n c:Nat}{b o:Nat}{l:List Nd}(h:Ns w B (some ⟨b,o,none⟩) n c l){k:Nat}(hk:k < l.length)(p:Nat):
  w.cell? ⟨b,o+k*10+po p,none⟩=some (.bool (l[k].tm p).1)∧w.cell? ⟨b,o+k*10+po p+1,none⟩=some (.int .u64 (l[k].tm p).2):=by
 obtain⟨b',o',e,-,c0,c1,c2,c3,c4,c5,c6,c7,c8,c9⟩:=h.node hk
 injection e with e
 injection e with e1 e2
 subst e1
 subst e2
 unfold po Nd.tm
 split
 ·exact⟨c4,c5⟩
 split
 ·exact⟨c6,c7⟩
 ·exact⟨c8,c9⟩
theorem Zaj (k p s Bs Bf B:Nat)(A:Option Addr)(m c:Nat)(l:List Nd)(w:World)(hs:w.cell? ⟨Bs,0,none⟩=some (.func (.func 186) #[] #[.pointer (some ⟨Bf,0,none⟩)]))(hcell:w.cell? ⟨Bf,0,none⟩=some (.slice A m c))(hr:Ns w B A m c l)(hB:B≤w.heap.size)(hk:k < l.length)(hp:p≤2):
  Calls Tryz.prog 105 #[.int .i64 (k:Int),.int .u8 (p:Int),.int .u8 (s:Int),.pointer (some ⟨Bs,0,none⟩)] w fun e w'=>e= .returned (spv ⟨k,p,s,(l[k].tm p).1,(l[k].tm p).2⟩)∧Below w.heap.size w w':=by
 have hal: ∀o:Obj,Below w.heap.size w (w.alloc o):=fun o=>(Below.refl _ _).alloc lR o
 have hs1: ∀o:Obj,(w.alloc o).cell? ⟨Bs,0,none⟩=some (.func (.func 186) #[] #[.pointer (some ⟨Bf,0,none⟩)]):=fun o=>((hal o).cell (p:=⟨Bs,0,none⟩) (World.block_lt_of_cell? w ⟨Bs,0,none⟩ hs)).trans hs
 have hf1: ∀o:Obj,(w.alloc o).cell? ⟨Bf,0,none⟩=some (.slice A m c):=fun o=>((hal o).cell (p:=⟨Bf,0,none⟩) (World.block_lt_of_cell? w ⟨Bf,0,none⟩ hcell)).trans hcell
 have hr1: ∀o:Obj,Ns (w.alloc o) B A m c l:=fun o=>hr.below ((hal o).mono hB)
 obtain⟨b,o,rfl,hbb,-⟩:=hr.node hk
 have ht:=fun o'=>Zja (hr1 o') hk p
 have HF:=Hd (fun o'=>ZdY k p Bf B _ m c l (w.alloc o') (hf1 o') (hr1 o') hk hp)
 have ht0:=fun o'=>(ht o').1
 have ht1:=fun o'=>(ht o').2
 clear ht hr1 hf1 hr hcell hs
 generalize (l[k].tm p).1=tv at*
 generalize (l[k].tm p).2=tn at*
 go_enter Tryz.func105,Tryz.ntmps105
 go_wp2_with fail
 refine(HF.out _).mono ?_
 rintro e w1 ⟨⟨b',o',heq,rfl⟩,rfl⟩
 injection heq with heq
 injection heq with e1 e2
 subst e1
 subst e2
 generalize haa:o+k*10+po p=a at*
 clear haa
 go_wp2_with fail
 exact bodyPost_ret (results_cell_row (P:=Tryz.prog) rfl _ _ w.heap.size 119 _ (0,0) _ rfl (heap_alloc_new w _) Tryz.underlying119 rfl rfl) rfl ⟨rfl,hal _⟩
theorem Zg4 (k s Bs Bf B:Nat)(A:Option Addr)(m c:Nat)(l:List Nd)(w:World)(hs:w.cell? ⟨Bs,0,none⟩=some (.func (.func 186) #[] #[.pointer (some ⟨Bf,0,none⟩)]))(hcell:w.cell? ⟨Bf,0,none⟩=some (.slice A m c))(hr:Ns w B A m c l)(hB:B≤w.heap.size)(hk:k < l.length):
  Calls Tryz.prog 105 #[.int .i64 (k:Int),.int .u8 0,.int .u8 (s:Int),.pointer (some ⟨Bs,0,none⟩)] w fun e w'=>e= .returned (.agg #[.int .i64 (k:Int),.int .u8 0,.int .u8 (s:Int),.bool l[k].lv,.int .u64 l[k].ln])∧Below w.heap.size w w':=
 Zaj k 0 s Bs Bf B A m c l w hs hcell hr hB hk (by omega)
theorem Zjb (k s Bs Bf B:Nat)(A:Option Addr)(m c:Nat)(l:List Nd)(w:World)(hs:w.cell? ⟨Bs,0,none⟩=some (.func (.func 186) #[] #[.pointer (some ⟨Bf,0,none⟩)]))(hcell:w.cell? ⟨Bf,0,none⟩=some (.slice A m c))(hr:Ns w B A m c l)(hB:B≤w.heap.size)(hk:k < l.length):
  Calls Tryz.prog 105 #[.int .i64 (k:Int),.int .u8 1,.int .u8 (s:Int),.pointer (some ⟨Bs,0,none⟩)] w fun e w'=>e= .returned (.agg #[.int .i64 (k:Int),.int .u8 1,.int .u8 (s:Int),.bool l[k].pv,.int .u64 l[k].pn])∧Below w.heap.size w w':=
 Zaj k 1 s Bs Bf B A m c l w hs hcell hr hB hk (by omega)
theorem Zg5 (k s Bs Bf B:Nat)(A:Option Addr)(m c:Nat)(l:List Nd)(w:World)(hs:w.cell? ⟨Bs,0,none⟩=some (.func (.func 186) #[] #[.pointer (some ⟨Bf,0,none⟩)]))(hcell:w.cell? ⟨Bf,0,none⟩=some (.slice A m c))(hr:Ns w B A m c l)(hB:B≤w.heap.size)(hk:k < l.length):
  Calls Tryz.prog 105 #[.int .i64 (k:Int),.int .u8 2,.int .u8 (s:Int),.pointer (some ⟨Bs,0,none⟩)] w fun e w'=>e= .returned (.agg #[.int .i64 (k:Int),.int .u8 2,.int .u8 (s:Int),.bool l[k].ev,.int .u64 l[k].en])∧Below w.heap.size w w':=
 Zaj k 2 s Bs Bf B A m c l w hs hcell hr hB hk (by omega)
end Go.Proofs.YtfmpecnkkbpdlaaGreatDoor
namespace Go.Proofs.YtfmpecnkkbpdlaaGreatDoor
open Go.RowKit Go.Shelf
attribute [local go_sem] Oper.semAt_some
structure StepT (n₀:Nat)(A B:World):Prop where
 bel:Below n₀ A B
 keep: ∀(b:Nat) (o:Obj),A.heap[b]?=some o→(∀cs z,o≠ .cells cs 117 z)→B.heap[b]?=some o
theorem StepT.of_below {n₀:Nat}{A B:World}(h:Below A.heap.size A B)(hn:n₀≤A.heap.size):StepT n₀ A B:=
 ⟨h.mono hn,fun b _ hb _=>(h.block b (Zd hb)).trans hb⟩
theorem StepT.of_own {n₀ base n:Nat}{A B:World}{v:Value}{xs:List Value}(h:A.ownsRow base 117 1 v n xs)(hg:A.grownBy B v.ownBlock)(hn:n₀≤base)(hs:n₀≤A.heap.size):StepT n₀ A B:=by
 refine⟨(Below.refl n₀ A).grown hg hs fun j hj=>Nat.le_trans hn (h.lt j hj).1,fun b o hb ho=>(hg.block b (Zd hb) fun e=> ?_).trans hb⟩
 rcases h.2 with⟨rfl,_⟩|⟨g,cap,cur,rfl,_,hgb,_⟩
 ·cases e
 ·have e':b=g:=by simpa [Value.ownBlock] using e
  rw[e',hgb] at hb
  injection hb with hb
  exact ho _ _ hb.symm
theorem StepT.others {n₀:Nat}{A B:World}(h:StepT n₀ A B):KeepsOthers A B:=
 ⟨h.bel.size,fun k o hk ho=>h.keep k o hk fun cs z e=>by rw[e] at ho;cases ho⟩
structure KpT (n₀:Nat)(A B:World):Prop where
 bel:Below n₀ A B
 keep: ∀(b:Nat) (cs:Array Value) (t:TypeId) (z:Nat×Nat),A.heap[b]?=some (.cells cs t z)→t≠40→t≠119→B.heap[b]?=some (.cells cs t z)
theorem Zd8 {n₀:Nat}{A B C:World}(h:KpT n₀ A B)(k:KpT n₀ B C):KpT n₀ A C:=
 ⟨h.bel.trans k.bel,fun b cs t z hb h1 h2=>k.keep b cs t z (h.keep b cs t z hb h1 h2) h1 h2⟩
theorem Zll {n₀:Nat}{w:World}(hn:n₀≤w.heap.size)(W:World)(l:Nat)(o o':Obj)(hl:w.heap.size≤l)(h:W.heap[l]?=some o)(h1:o.isCells=false):KpT n₀ W (W.putObj l o'):=
 ⟨(Below.refl n₀ W).grown (grownBy_putObj' W l o') (by have:=Zd h;omega) (fun k e=>by cases e;omega),fun b cs t z hb _ _=>by
  have:b≠l:=by
   rintro rfl
   rw[hb] at h
   cases h
   cases h1
  exact(World.putObj_heap_other (by omega)).trans hb⟩
theorem Zjr {n₀ base n:Nat}{A B:World}{v:Value}{xs:List Value}(h:A.ownsRow base 117 1 v n xs)(k:KpT n₀ A B):B.ownsRow base 117 1 v n xs:=by
 refine⟨h.1,?_⟩
 rcases h.2 with hn|⟨g,cap,cur,hv,hg,hgg,r⟩
 ·exact .inl hn
 ·exact .inr ⟨g,cap,cur,hv,hg,k.keep g _ _ _ hgg (by decide) (by decide),r⟩
def Vl (l:List Nd)(k:Nat):Nat:=(sds l [0]).getD k 0
def KF (l:List Nd)(x:Fin l.length):Array Value:= #[.int .i64 (x.val:Int),.int .u8 (Vl l x.val:Int)]
theorem Zho {n k:Nat}(h:k < n):(List.finRange n).take (k+1)=(List.finRange n).take k++ [⟨k,h⟩]:=by
 rw[List.take_succ_eq_append_getElem (by simpa using h)]
 simp
theorem Zhp (nn:Nat)(A:Option Addr)(m c:Nat)(w:World):
  CallsIn Fence.wide nn Tryz.prog 106 #[.slice A m c] w fun e w'=>e= .returned (.func (.func 187) #[] #[.pointer (some ⟨w.heap.size,0,none⟩)])∧w'=w.alloc (.cells #[.slice A m c] 25):=by
 refine callsIn_of_wp Tryz.func106 rfl trivial ?_ rfl
 simp only[Tryz.ntmps106,List.size_toArray,List.length_cons,List.length_nil,Nat.reduceAdd,Nat.reduceSub,Array.replicate_succ,Array.replicate_zero,List.push_toArray,List.append_toArray,List.nil_append,List.cons_append]
 gi_wp2
 go_ret
 exact⟨rfl,rfl⟩
theorem Zhq:(Tryz.prog.info? 117).map (fun i=>(i.zero,i.size,i.bytes))=some (some (.int .u8 0),1,1):=by kernel_rfl
def Zjs (l:List Nd)(B:Nat)(A:Option Addr)(m c:Nat)(J:List (Fin l.length)→World→Prop)(v3 v11:Value)(wr:World):Prop:=
 ∃(k:Nat) (st dst:List Nat) (A3:Option Addr) (N3 c3:Nat),v11= .int .i64 (k:Int)∧v3= .slice A3 N3 c3∧Hid (st.length=N3)∧k≤l.length∧wr.ownsRow B 117 1 (.slice A3 N3 c3) N3 (st.reverse.map sc)∧sds l [0]=(sds l [0]).take k++sds (l.drop k) st∧st.length≤1+8*k∧st.length=dst.length∧chk (l.drop k) dst=0∧
  Ns wr B A m c l∧B≤wr.heap.size∧J ((List.finRange l.length).take k) wr
theorem Zjt {w:World}{base n c g:Nat}{xs:List Value}{x:Value}{E:TypeId}(h:w.ownsRow base E 1 (.slice (some ⟨g,0,none⟩) (n+1) c) (n+1) (xs++ [x])):w.ownsRow base E 1 (.slice (some ⟨g,0,none⟩) n c) n xs:=by
 have hl:xs.length=n:=by
  have:=h.1
  rw[List.length_append,List.length_singleton] at this
  omega
 rcases h.2 with⟨hv,_⟩|⟨g',cap,cur,hv,hb,hg,hnc,hcm,hcs,htake⟩
 ·cases hv
 ·injection hv with h1 h2 h3
  injection h1 with h1
  injection h1 with h1
  subst h1
  subst h3
  refine⟨by rw[hl];omega,.inr ⟨g,c,cur,rfl,hb,hg,by omega,hcm,hcs,?_⟩⟩
  have:=congrArg (List.take n) htake
  rw[List.take_take,Nat.mul_one,Nat.min_eq_left (by omega),List.take_left' hl] at this
  rw[Nat.mul_one]
  exact this
theorem Zhr {l:List Nd}{k:Nat}{st dst:List Nat}(hk:k < l.length)(hs:sds l [0]=(sds l [0]).take k++sds (l.drop k) st)(hd:st.length=dst.length)(hc:chk (l.drop k) dst=0):
  ∃s st' d dst',st=s::st'∧dst=d::dst'∧Vl l k=s∧sds l [0]=(sds l [0]).take (k+1)++sds (l.drop (k+1)) (Zo l[k] s++st')∧0≤l[k].n∧l[k].n≤8∧(Zo l[k] s++st').length=(opens l[k] d dst').length∧chk (l.drop (k+1)) (opens l[k] d dst')=0∧(Zo l[k] s).length≤8:=by
 rw[List.drop_eq_getElem_cons hk] at hs hc
 cases dst with
 |nil=>simp[chk] at hc
 |cons d dst'=>
  cases st with
  |nil=>simp at hd
  |cons s st'=>
   rw[Zfu] at hc
   split at hc
   ·rename_i hm
    split at hc
    ·cases hc
    ·rename_i hno
     have h0:=Nd.may_kids hm
     have hbl:=VU s hm
     simp only[sds] at hs
     have htl:((sds l [0]).take k).length=k:=by
      have h1:=congrArg List.length hs
      rw[List.length_append,List.length_cons] at h1
      rw[List.length_take] at h1 ⊢
      omega
     have hat:Vl l k=s:=by
      unfold Vl
      rw[hs,List.getD_eq_getElem?_getD,List.getElem?_append_right (by rw[htl];exact Nat.le_refl _),htl]
      simp
     refine⟨s,st',d,dst',rfl,rfl,hat,?_,h0,by omega,?_,hc,by omega⟩
     ·have e1:(sds l [0]).take (k+1)=(sds l [0]).take k++ [s]:=by
       conv=>lhs;rw[hs]
       rw[List.take_append,htl,List.take_of_length_le (by rw[htl];omega)]
       simp
      rw[e1,List.append_assoc]
      exact hs
     ·unfold opens
      rw[List.length_append,List.length_append,hbl,List.length_replicate]
      simp only[List.length_cons] at hd
      omega
   ·cases hc
theorem ZfA (nn yl Bn n₀:Nat)(A:Option Addr)(m c:Nat)(l:List Nd)(hc:Zt l=0)(J:List (Fin l.length)→World→Prop)(hJ: ∀pre A B,J pre A→StepT n₀ A B→J pre B)
  (hY: ∀pre x W,J pre W→pre.length < (List.finRange l.length).length→YieldAt Fence.wide (nn - 1) Tryz.prog yl (KF l x) W fun e W'=>e= .returned (.bool true)∧J (pre++ [x]) W'∧KpT n₀ W W')
  (W:World) (hcn:W.cell? ⟨Bn,0,none⟩=some (.slice A m c)) (hL:Ns W n₀ A m c l) (hn₀:n₀≤W.heap.size) (h0:J [] W):
  CallsIn Fence.wide nn Tryz.prog 187 #[.func (.yield yl) #[] #[],.pointer (some ⟨Bn,0,none⟩)] W fun e W'=>(∃v,e= .returned v)∧J (List.finRange l.length) W':=by
 obtain⟨i0,hi0,hz0,hz1,hz2⟩:=info_parts Zhq
 have HL:=Hd hL.len
 have hl128:m≤128:=by rw[← HL.out];exact(VV hc).2
 have HJ:=Hd hJ
 have HY:=Hd hY
 have HCH:=Hd (Qe hc).2.2
 have hown0:(W.alloc (.cells #[.int .u8 0] 117)).ownsRow n₀ 117 1 (.slice (some ⟨W.heap.size,0,none⟩) 1 1) 1 ([0].reverse.map sc):=
  ⟨rfl,.inr ⟨W.heap.size,1,#[.int .u8 0],rfl,hn₀,heap_alloc_new W _,Nat.le_refl _,by unfold maxLen;omega,rfl,rfl⟩⟩
 have hcn1:(W.alloc (.cells #[.int .u8 0] 117)).cell? ⟨Bn,0,none⟩=some (.slice A m c):=(World.cell?_alloc_lt W _ ⟨Bn,0,none⟩ (World.block_lt_of_cell? W ⟨Bn,0,none⟩ hcn)).trans hcn
 have hal:Below W.heap.size W (W.alloc (.cells #[.int .u8 0] 117)):=bA
 have hJ1:=hJ [] W _ h0 (StepT.of_below hal hn₀)
 have hL1:=hL.below (hal.mono hn₀)
 have hsz1:n₀≤(W.alloc (.cells #[.int .u8 0] 117)).heap.size:=Nat.le_trans hn₀ hal.size
 have H0:=Hd (show Zjs l n₀ A m c J (.slice (some ⟨W.heap.size,0,none⟩) 1 1) (.int .i64 0) (W.alloc (.cells #[.int .u8 0] 117)) from
  ⟨0,[0],[1],_,_,_,rfl,rfl,rfl,Nat.zero_le _,hown0,by simp,by simp,rfl,by simpa using HCH.out,hL1,hsz1,by simpa using hJ1⟩)
 clear hJ hY hown0 hal hJ1 hL1 hsz1 hL h0 hn₀ HCH
 refine callsIn_of_wp Tryz.func187 rfl trivial ?_ rfl
 simp only[Tryz.ntmps187,List.size_toArray,List.length_cons,List.length_nil,Nat.reduceAdd,Nat.reduceSub,Array.replicate_succ,Array.replicate_zero,List.push_toArray,List.append_toArray,List.nil_append,List.cons_append]
 gi_wp2
 gi_loopw [3,11] (fun v3 v11 wr=>Zjs l n₀ A m c J v3 v11 wr) (fun _ v11 _=>m - (intOf v11).toNat)
 case atStart=>exact H0.out
 case round=>
  clear H0
  obtain⟨k,st,dst,A3,N3,c3,rfl,rfl,HN,hk,hown,hsd,hst,hdl,hch,hr,hB,hJs⟩:=hrel
  by_cases hlt:k < m
  ·have hk':k < l.length:=by rw[HL.out];exact hlt
   obtain⟨s,st',d,dst',rfl,rfl,hat,hsd2,hx0,hx8,hdl2,hch2,hb8⟩:=Zhr hk' hsd hdl hch
   obtain⟨b,o,rfl,hbb,e0,e1,e2,e3,e4,e5,e6,e7,e8,e9⟩:=hr.node hk'
   have HS:=Hd (Zho hk')
   have HAT:=Hd hat
   have HSD:=Hd hsd2
   have HCH2:=Hd hch2
   have HDL2:=Hd hdl2
   have HB8:=Hd hb8
   clear hsd hdl hch hsd2 hch2 hdl2 hat hb8 hcn hcn1
   obtain⟨N,rfl⟩: ∃N,N3=N+1:=⟨st'.length,HN.out.symm⟩
   replace HN:Hid (st'.length=N):=Hd (by have:=HN.out;rw[List.length_cons] at this;omega)
   rw[List.length_cons,HN.out] at hst
   rw[List.reverse_cons,List.map_append] at hown
   obtain⟨q,rfl⟩: ∃q,A3=some ⟨q,0,none⟩:=by
    rcases hown.2 with⟨_,h⟩|⟨g,cap,cur,hv,_⟩
    ·omega
    ·injection hv with h1 _ _
     exact⟨g,h1⟩
   have hncap:N+1≤c3∧c3≤maxLen∧q < wr.heap.size:=by
    rcases hown.2 with⟨h,_⟩|⟨g,cap,cur,hv,_,hg,hnc,hcm,_⟩
    ·cases h
    ·injection hv with h1 h2 h3
     injection h1 with h1
     injection h1 with h1
     subst h1
     subst h3
     exact⟨hnc,hcm,Zd hg⟩
   have hlast:wr.cell? ⟨q,N,none⟩=some (.int .u8 (s:Int)):=by
    have:=hown.cells (g:=q) rfl N (sc s) (by rw[List.getElem?_append_right (by simp[HN.out])];simp[HN.out])
    rwa [Addr.add_lit,Nat.zero_add] at this
   have hcq:c3≤9223372036854775807:=by have:=hncap.2.1;unfold maxLen at this;omega
   have hs: ∀W,(Instr.slice 268 (.slice (some ⟨q,0,none⟩) (N+1) c3) none (some (.int .i64 (N:Int))) none).run Tryz.prog W= .ok (.slice (some ⟨q,0,none⟩) N c3) W:=by
    intro W
    rw[run_slice_h W 268 _ _ _ (by rw[show Tryz.prog.elem 268=117 by simp[Program.elem,Tryz.underlying268]];exact Tryz.underlying268) .i64 _ (by omega) (by omega),show Tryz.prog.elem 268=117 by simp[Program.elem,Tryz.underlying268],Qa]
    simp[Result.andThen,sliced,Addr.add_lit]
   have hcut:=Zjt hown
   have HB:Hid (∀W,Calls Tryz.prog 188 #[ndv l[k],.int .u8 (s:Int)] W fun e w'=> ∃A n c,e= .returned (.slice A n c)∧Rd sc w' w'.heap.size A n c (Zo l[k] s).reverse∧Below W.heap.size W w'):=Hd fun W=>VT l[k] s W hx0 hx8
   have HNS:=Hd hr
   unfold ndv at HB
   generalize l[k]=x at*
   obtain⟨xk,xm,xs,xn,xlv,xln,xpv,xpn,xev,xen⟩:=x
   simp only at e0 e1 e2 e3 e4 e5 e6 e7 e8 e9 HB
   obtain⟨xcs,hxcs⟩: ∃xcs:Array Value,xcs= #[.int .u8 xk,.int .i64 xm,.string (str xs),.int .i64 xn,.bool xlv,.int .u64 xln,.bool xpv,.int .u64 xpn,.bool xev,.int .u64 xen]:=⟨_,rfl⟩
   have hal:Below wr.heap.size wr (wr.alloc (.cells xcs 77)):=bA
   have hlast':(wr.alloc (.cells xcs 77)).cell? ⟨q,N,none⟩=some (.int .u8 (s:Int)):=(hal.cell (p:=⟨q,N,none⟩) hncap.2.2).trans hlast
   have hJa:=HJ.out _ _ _ hJs (StepT.of_below hal hB)
   have hblk:=heap_alloc_new wr (.cells xcs 77)
   have hcuta:=hcut.alloc (.cells xcs 77)
   obtain⟨fn,tmps,assign,body,hy,hR⟩:=HY.out _ ⟨k,hk'⟩ _ hJa (by rw[List.length_take,List.length_finRange];omega)
   rw[show KF l ⟨k,hk'⟩= #[.int .i64 (k:Int),.int .u8 (s:Int)] by show(#[Value.int .i64 (k:Int),Value.int .u8 (Vl l k:Int)]:Array Value)=_;rw[HAT.out]] at hy
   rw[← HS.out] at hR
   have hR':=hR.mono (R':=fun e W'=>e= .returned (.bool true)∧Hid (J ((List.finRange l.length).take (k+1)) W'∧KpT n₀ (wr.alloc (.cells xcs 77)) W')) (by
    rintro e W' ⟨rfl,h1,h2⟩
    exact⟨rfl,h1,h2⟩)
   have HBA:=Hd (Nat.le_trans hB hal.size)
   have hmx:Tryz.prog.follows .mixedOrders=true:=by kernel_rfl
   clear hR hJs hJa hown hcut hlast hx0 hx8 hr
   subst hxcs
   have HBLK:=Hd hblk
   have HCUT:=Hd hcuta
   have HAL:=Hd hal
   clear hblk hcuta hal
   gi_wp2
   refine⟨fun e=>(by cases e),hR'.mono ?_⟩
   rintro e W3 ⟨rfl,HJ3⟩
   clear hy hR' hlast'
   have hblk3:=HJ3.out.2.keep _ _ 77 (0,0) HBLK.out (by decide) (by decide)
   have hown3:=Zjr HCUT.out HJ3.out.2
   have hr3:=(HNS.out.below (HAL.out.mono hB)).below HJ3.out.2.bel
   have hsz3:n₀≤W3.heap.size:=Nat.le_trans HBA.out HJ3.out.2.bel.size
   have HJK:=Hd HJ3.out.1
   clear HJ3 HBLK HCUT HNS HAL e0 e1 e2 e3 e4 e5 e6 e7 e8 e9
   have HO3:=Hd hown3
   have HR3:=Hd hr3
   have HK3:=Hd hblk3
   clear hown3 hr3 hblk3
   gi_wp2
   refine ZT (Zbg _) [0,1,2,3,4,5,6,7] [5,6] 8 (fun w'=>w'.heap[wr.heap.size]?=some (.cells #[.int .u8 xk,.int .i64 xm,.string (str xs),.int .i64 xn,.bool xlv,.int .u64 xln,.bool xpv,.int .u64 xpn,.bool xev,.int .u64 xen] 77 (0,0))) hmx (by kernel_rfl) (by kernel_rfl) (by kernel_rfl) (by kernel_rfl) HK3.out ?_
   simp only[steps,sE,sD]
   repeat(first
    |(refine Zf (v:= ?_) rfl rfl ?_ ?_;rotate_left;(focus(rintro w' hS;have s0:=(Za (i:=0) hS).trans rfl;have s1:=(Za (i:=1) hS).trans rfl;have s2:=(Za (i:=2) hS).trans rfl;have s3:=(Za (i:=3) hS).trans rfl;have s4:=(Za (i:=4) hS).trans rfl;have s5:=(Za (i:=5) hS).trans rfl;have s6:=(Za (i:=6) hS).trans rfl;have s7:=(Za (i:=7) hS).trans rfl;have s8:=(Za (i:=8) hS).trans rfl;have s9:=(Za (i:=9) hS).trans rfl;clear hS;go_simp;try with_reducible rfl));simp only[Act.put,sA,sB,sC]))
   refine Ze rfl rfl (fun K hK=> ?_)
   go_simp
   refine(HB.out _).mono ?_
   rintro e w4 ⟨A4,n4,c4,rfl,hrd4,hb4⟩
   have hb4':Below W3.heap.size W3 w4:=⟨hb4.os,hb4.tape,hb4.output,hb4.size,hb4.block⟩
   have hblk4:=(hb4'.block wr.heap.size (Zd HK3.out)).trans HK3.out
   have hown4:=Zhk HO3.out hb4'
   have hJ4:=HJ.out _ _ _ HJK.out (StepT.of_below hb4' hsz3)
   have hr4:=HR3.out.below (hb4'.mono hsz3)
   have hsz4:n₀≤w4.heap.size:=Nat.le_trans hsz3 hb4'.size
   refine hK.out _ _ (fun _=>hblk4) ?_
   clear hK K
   try simp only[Act.put,sA,sB,sC]
   refine Ze rfl rfl (fun K hK=> ?_)
   have h4l:(Zo ⟨xk,xm,xs,xn,xlv,xln,xpv,xpn,xev,xen⟩ s).reverse.length≤8:=by rw[List.length_reverse];exact HB8.out
   have h4n:(Zo ⟨xk,xm,xs,xn,xlv,xln,xpv,xpn,xev,xen⟩ s).length=n4:=by have:=hrd4.len;rwa [List.length_reverse] at this
   rw[hrd4.len] at h4l
   refine YX _ (.tmp 30) (.tmp 33) 268 rfl n₀ 117 i0 (.int .u8 0) 1 Tryz.underlying268 hi0 hz0 hz1 hz2 rfl Zkr (.slice (some ⟨q,0,none⟩) N c3) N st'.reverse rfl hown4 w4.heap.size A4 n4 c4 _ rfl hrd4 (by unfold maxLen;omega) (by omega) hsz4 ?_
   intro A5 n5 c5 w5 hn5 hown5 hg5 _
   have hst5:StepT n₀ w4 w5:=StepT.of_own hown4 hg5 lR hsz4
   have hblk5:=hst5.keep _ _ hblk4 (fun cs z e=>by cases e)
   refine hK.out _ _ (fun _=>hblk5) ?_
   clear hK K hblk4 hblk5
   try simp only[Act.put,sA,sB,sC]
   refine Zf rfl rfl (fun w' _=>by go_simp;try with_reducible rfl) ?_
   try simp only[Act.put,sA,sB,sC]
   refine U9 ?_
   have hJ5:=HJ.out _ _ _ hJ4 hst5
   have hr5:=hr4.below hst5.bel
   have hsz5:n₀≤w5.heap.size:=Nat.le_trans hsz4 hst5.bel.size
   rw[← List.reverse_append] at hown5
   have HREL:=Hd (show Zjs l n₀ (some ⟨b,o,none⟩) m c J (.slice A5 n5 c5) (.int .i64 ((k:Int)+1)) w5 from
    ⟨k+1,_,_,A5,n5,c5,by go_num,rfl,Hd (by rw[List.length_append,HN.out,h4n,hn5.out,Nat.add_comm]),by omega,hown5,HSD.out,by rw[List.length_append,h4n,HN.out];omega,HDL2.out,HCH2.out,hr5,hsz5,hJ5⟩)
   clear hJ5 hr5 hsz5 hown5 hst5 hJ4 hr4 hsz4 hrd4 hb4 hb4' hown4 HO3 HR3 HK3 HJK HSD HCH2 HDL2 HB hg5 hn5
   gi_wp2
   go_roundw
   case rel=>exact HREL.out
   case measure=>simp[intOf];omega
  ·obtain rfl:k=m:=by have:=HL.out;omega
   have hfin:(List.finRange l.length).take k=List.finRange l.length:=List.take_of_length_le (by simp[HL.out])
   rw[hfin] at hJs
   clear hsd hdl hch
   gi_wp2
   go_end0
   exact⟨⟨_,rfl⟩,hJs⟩
theorem Zcq (nn Bn n₀:Nat)(A:Option Addr)(m c:Nat)(l:List Nd)(hc:Zt l=0)(w:World)(hcn:w.cell? ⟨Bn,0,none⟩=some (.slice A m c))(hL:Ns w n₀ A m c l)(hn₀:n₀≤w.heap.size):
  Comes Tryz.prog nn 187 #[.pointer (some ⟨Bn,0,none⟩)] (KF l) (StepT n₀) (KpT n₀) (List.finRange l.length) w:=fun yl J W hW hJ hY h0=>
 ZfA nn yl Bn n₀ A m c l hc J hJ hY W ((hW.cell (p:=⟨Bn,0,none⟩) (World.block_lt_of_cell? w ⟨Bn,0,none⟩ hcn)).trans hcn) (hL.below (hW.mono hn₀)) (Nat.le_trans hn₀ hW.size) h0
end Go.Proofs.YtfmpecnkkbpdlaaGreatDoor
