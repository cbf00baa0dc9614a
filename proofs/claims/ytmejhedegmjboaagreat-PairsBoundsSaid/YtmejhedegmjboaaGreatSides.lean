import Derived.ProofKit
import Derived.OpenShut
import Derived.ShutString
import Derived.ChangeOld
import Derived.Deep.Slices
import Derived.Shelf.RegionOpen
import Derived.Test.YtmejhedegmjboaaGreatDepths
import Derived.Test.YtmejhedegmjboaaGreatNdMay
import Derived.Test.YtmejhedegmjboaaGreatRange
import Derived.Test.YtmejhedegmjboaaGreatRepS
set_option maxRecDepth 100000
set_option maxHeartbeats 2000000
namespace Go.Proofs.YtmejhedegmjboaaGreat
open Go.RowKit
end Go.Proofs.YtmejhedegmjboaaGreat
namespace Go.Proofs.YtmejhedegmjboaaGreat
open Go.RowKit
theorem check_any (A:Option Addr)(n c:Nat)(l:List Nd)(w:World)(h:Ns w w.heap.size A n c l)(hf: ∀x∈l,x.Fits):
  Calls Tryz.prog 48 #[.slice A n c] w fun e w'=>e= .returned (.int .i64 (ZI l:Int))∧Below w.heap.size w w':=by
 have hd:=Zef A n c l w h hf
 clear hf
 go_enter Tryz.func48,Tryz.ntmps48
 go_wp2_with fail
 refine hd.mono ?_
 rintro e w1 ⟨A',m,c',rfl,_,hb⟩
 go_wp2_with fail
 go_ret
 exact⟨rfl,hb⟩
theorem below_drewN (w:World)(q:Nat){B:Nat}:Below B w (w.drewN q):=⟨rfl,rfl,rfl,Nat.le_refl _,fun _ _=>rfl⟩
end Go.Proofs.YtmejhedegmjboaaGreat
namespace Go.Proofs.YtmejhedegmjboaaGreat
open Go.RowKit
def nInt:Nd:=⟨1,0,[105,110,116],0,false,0,false,0,false,0⟩
def nFun:Nd:=⟨5,0,[],2,false,0,false,0,false,0⟩
theorem fits_int:nInt.Fits:=⟨by decide,by decide,by decide,by decide,by decide,by decide,by decide⟩
theorem ZiP:nFun.Fits:=⟨by decide,by decide,by decide,by decide,by decide,by decide,by decide⟩
end Go.Proofs.YtmejhedegmjboaaGreat
namespace Go.Proofs.YtmejhedegmjboaaGreat
open Go.RowKit
theorem Zei {w:World}{g base n:Nat}{cs:Array Value}{l:List Nd}(hg:w.heap[g]?=some (.cells cs 116 (0,0)))(hb:base≤g)(hcs:cs.toList=l.flatMap ndc)(hn:l.length=n)(hm:n≤maxLen):
  w.ownsRow base 116 10 (.slice (some ⟨g,0,none⟩) n n) n (l.flatMap ndc):=by
 have hl:(l.flatMap ndc).length=n*10:=by rw[Vr Zgn,hn]
 refine⟨hl,.inr ⟨g,n,cs,rfl,hb,hg,Nat.le_refl _,hm,?_,?_⟩⟩
 ·rw[← Array.length_toList,hcs,hl]
 ·rw[hcs,List.take_of_length_le (by rw[hl];exact Nat.le_refl _)]
theorem Qs {x:Nd}{l:List Nd}(h:x.Fits)(k: ∀y∈l,y.Fits): ∀y∈x::l,y.Fits:=by
 intro y hy
 rcases List.mem_cons.1 hy with rfl|hy
 ·exact h
 ·exact k y hy
theorem Zid: ∀y∈([]:List Nd),y.Fits:=by simp
theorem Qu {l:List Nd}(h:ZI l=0):l≠ []∧l.length≤128∧chk l [1]=0:=by
 unfold ZI at h
 split at h
 ·cases h
 split at h
 ·cases h
 exact⟨by assumption,by omega,h⟩
end Go.Proofs.YtmejhedegmjboaaGreat
namespace Go.Proofs.YtmejhedegmjboaaGreat
open Go.ChangeShapes Go.WideShapes Go.ChangeAt Go.RowKit Go.Deep
theorem ZcR {a:Int}(h:(Lit.int .u64 a).wf=true):0≤a∧a < 18446744073709551616:=by
 have hb:IntKind.u64.min≤a∧a≤IntKind.u64.max:=by simpa [Lit.wf] using h
 have e1:IntKind.u64.min=0:=by decide
 have e2:IntKind.u64.max=18446744073709551615:=by decide
 rw[e1,e2] at hb
 omega
structure U64 (z:Int):Prop where
 lo:0≤z
 hi:z < 18446744073709551616
theorem U64.nat {z:Int}(h:U64 z): ∃y:Nat,z=(y:Int)∧y < 18446744073709551616:=⟨z.toNat,by have:=h.lo;omega,by have:=h.lo;have:=h.hi;omega⟩
structure Nd.TFits (x:Nd):Prop where
 l:U64 x.ln
 p:U64 x.pn
 e:U64 x.en
theorem Zfg {a:Int}(h:(Lit.int .u8 a).wf=true):0≤a∧a≤255:=by
 have hb:IntKind.u8.min≤a∧a≤IntKind.u8.max:=by simpa [Lit.wf] using h
 have h1:IntKind.u8.min=0:=rfl
 have h2:IntKind.u8.max=255:=rfl
 omega
theorem c34:Tryz.prog.cellsOf 62=2:=by kernel_rfl
theorem c4:Tryz.prog.cellsOf 4=1:=by kernel_rfl
theorem c32:Tryz.prog.cellsOf 60=1:=by kernel_rfl
theorem ZcF {α:Type}: ∀{l:List α},l.length=2→ ∃a b,l= [a,b]
 | [a,b],_=>⟨a,b,rfl⟩
section
variable {H:Type} {enc:TypeId×Value→H} {W:World}
theorem KT {n:Nat}{cs:List Value}{x:DataW H×List MemPlace}(h:DataW.trod enc Tryz.prog W 0 (fun _=>true) true n 62 cs=some x): ∃(b:Bool) (z:Int),cs= [.bool b,.int .u64 z]∧U64 z:=by
 obtain⟨xs,m,_,_,hl,hlen,hf⟩:=DataW.trod_struct Tryz.underlying62 h
 rw[c34] at hl
 match xs,hlen with
 | [y0,y1],_=>(
 have h0:DataW.trod enc Tryz.prog W 0 (fun _=>true) true m 4 (List.take (Tryz.prog.cellsOf 4) (List.drop 0 cs))=some y0:=hf 0 _ rfl
 have h1:DataW.trod enc Tryz.prog W 0 (fun _=>true) true m 60 (List.take (Tryz.prog.cellsOf 60) (List.drop 1 cs))=some y1:=hf 1 _ rfl
 rw[c4] at h0
 rw[c32] at h1
 obtain⟨b,e0,_⟩:=DataW.trod_bool Tryz.underlying4 h0
 obtain⟨z,e1,_,wz⟩:=DataW.trod_int Tryz.underlying60 h1
 have hz:U64 z:=⟨(ZcR wz).1,(ZcR wz).2⟩
 obtain⟨u0,u1,rfl⟩:=ZcF hl
 simp at e0 e1
 exact⟨b,z,by rw[e0,e1],hz⟩)
end
end Go.Proofs.YtmejhedegmjboaaGreat
namespace Go.Proofs.YtmejhedegmjboaaGreat
open Go.ChangeShapes Go.WideShapes Go.ChangeAt Go.RowKit Go.Deep
def tmc (t:Bool×Int):List Value:= [.bool t.1,.int .u64 t.2]
theorem ZK (t:Bool×Int):(tmc t).length=2:=rfl
theorem Za8 {H:Type}{enc:TypeId×Value→H}{W:World}{a0:Option Addr}{len0 cap0:Nat}{d:DataW H}{p:List MemPlace}(h:DataW.Trod enc Tryz.prog W 0 (fun _=>true) true 29 (.slice a0 len0 cap0) d p):
  ∃l:List (Bool×Int),Rs tmc 2 W W.heap.size a0 len0 cap0 l:=by
 obtain⟨fuel,hf⟩:=h
 rcases open_slice Tryz.underlying29 hf with⟨hcs,_⟩|⟨x,l,c,m,n,D,Pl,hcs,_,hl,hm,hmm,_,hx⟩
 ·simp[Value.cells] at hcs
  obtain⟨rfl,rfl,rfl⟩:=hcs
  exact⟨[],Rs.nil _ _⟩
 ·(
 simp[Value.cells] at hcs
 obtain⟨rfl,rfl,rfl⟩:=hcs
 have hm':m=cap0:=by simpa using hmm
 have each: ∀i,i < len0→ ∃y:Bool×Int,∀j u,(tmc y)[j]?=some u→W.cell? ((x.add (i*2)).add j)=some u:=by(
 intro i hi
 obtain⟨cs',h1,h2⟩:=hx i (by omega)
 obtain⟨b,z,rfl,_⟩:=KT h2
 rw[c34] at h1
 obtain⟨_,_,hc⟩:=World.cells?_some h1
 refine⟨(b,z),fun j u hu=> ?_⟩
 have hj:j < (tmc (b,z)).length:=(List.getElem?_eq_some_iff.1 hu).1
 have:=hc j (by rw[ZK] at hj;exact hj)
 rw[this]
 exact hu)
 obtain⟨f,hf⟩: ∃f:Nat→Bool×Int,∀i,i < len0→ ∀j u,(tmc (f i))[j]?=some u→W.cell? ((x.add (i*2)).add j)=some u:=
  ⟨fun i=>if h:i < len0 then Classical.choose (each i h) else(false,0),fun i h=>by
   simp only[dif_pos h]
   exact Classical.choose_spec (each i h)⟩
 refine⟨(List.range len0).map f,⟨by simp,hl,hm,(fun h=>by cases h),fun h0=> ?_⟩⟩
 obtain⟨b,o,spot⟩:=x
 have hc0:=hf 0 (by omega) 0 _ rfl
 have hspot:spot=none:=by simpa [Addr.add] using World.cell?_spot hc0
 subst hspot
 refine⟨b,o,rfl,?_,fun j hj i u hu=> ?_⟩
 ·exact World.block_lt_of_cell? W ⟨b,o,none⟩ (by simpa [Addr.add] using hc0)
 ·rw[List.length_map,List.length_range] at hj
  simp only[List.getElem_map,List.getElem_range] at hu
  have:=hf j hj i u hu
  rwa [Addr.add_lit,Addr.add_lit] at this)
theorem Ue {w:World}{B n c:Nat}{A:Option Addr}{l:List (Bool×Int)}(h:Rs tmc 2 w B A n c l){k:Nat}(hk:k < l.length): ∃b o,A=some ⟨b,o,none⟩∧b < B∧
  w.cell? ⟨b,o+k*2,none⟩=some (.bool l[k].1)∧w.cell? ⟨b,o+k*2+1,none⟩=some (.int .u64 l[k].2):=by
 obtain⟨b,o,e,hb,hc⟩:=h.spot (by have:=h.len;omega)
 have hc:=hc k hk
 exact⟨b,o,e,hb,hc 0 _ rfl,hc 1 _ rfl⟩
end Go.Proofs.YtmejhedegmjboaaGreat
namespace Go.Proofs.YtmejhedegmjboaaGreat
def QU (s:Nat):Nat:=if s=0 then 1 else if s=1 then 0 else 2
def UF (x:Nd)(s:Nat):List Nat:=if x.k=4 then [2] else if x.k=5 then [QU s,s] else List.replicate x.n.toNat s
theorem Za5 {x:Nd}(s:Nat)(h:x.may=true):(UF x s).length=x.n.toNat:=by
 unfold Nd.may at h
 unfold UF
 by_cases h4:x.k=4
 ·rw[if_neg (by omega),if_neg (by omega),if_neg (by omega),if_pos h4] at h
  simp at h
  rw[if_pos h4,h.1.2]
  rfl
 by_cases h5:x.k=5
 ·rw[if_neg (by omega),if_neg (by omega),if_neg (by omega),if_neg h4,if_pos h5] at h
  simp at h
  rw[if_neg h4,if_pos h5,h.2]
  rfl
 rw[if_neg h4,if_neg h5,List.length_replicate]
def sds:List Nd→List Nat→List Nat
 | [],_=> []
 |_::_,[]=> []
 |x::l,s::st=>s::sds l (UF x s++st)
theorem Ze5: ∀(l:List Nd) (st dst:List Nat),st.length=dst.length→chk l dst=0→(sds l st).length=l.length
 | [],_,_,_,_=>rfl
 |_::_,st,[],h,k=>by simp[chk] at k
 |_::_,[],_::_,h,_=>by simp at h
 |x::l,s::st,d::dst,h,k=>by(
 rw[Zf6] at k
 split at k
 ·(
 rename_i hm
 split at k
 ·cases k
 ·(
 simp only[sds,List.length_cons]
 rw[Ze5 l _ _ ?_ k]
 unfold opens
 rw[List.length_append,List.length_append,Za5 s hm,List.length_replicate]
 simpa using h))
 ·cases k)
structure Sp where
 n:Nat
 p:Nat
 s:Nat
 v:Bool
 z:Int
def labS (k:Nat)(x:Nd)(s:Nat):List Sp:=⟨k,0,s,x.lv,x.ln⟩::(if x.k=5 then [⟨k,1,QU s,x.pv,x.pn⟩] else [])
def effS (k:Nat)(x:Nd)(s:Nat):List Sp:=if x.k=5 then [⟨k,2,s,x.ev,x.en⟩] else []
def lab:Nat→List Nd→List Nat→List Sp
 |_,[],_=> []
 |_,_::_,[]=> []
 |k,x::l,s::ss=>labS k x s++lab (k+1) l ss
def eff:Nat→List Nd→List Nat→List Sp
 |_,[],_=> []
 |_,_::_,[]=> []
 |k,x::l,s::ss=>effS k x s++eff (k+1) l ss
def labB (l:List Nd):List Sp:=if ZI l=0 then lab 0 l (sds l [0]) else []
def effB (l:List Nd):List Sp:=if ZI l=0 then eff 0 l (sds l [0]) else []
theorem ZcO (k:Nat)(x:Nd)(s:Nat):1≤(labS k x s).length∧(labS k x s).length≤2:=by
 unfold labS
 split <;> simp
theorem ZcP (k:Nat)(x:Nd)(s:Nat):(effS k x s).length≤1:=by
 unfold effS
 split <;> simp
theorem Ze6: ∀(l:List Nd) (k:Nat) (ss:List Nat),(lab k l ss).length≤2*l.length
 | [],_,_=>by simp[lab]
 |_::_,_,[]=>by simp[lab]
 |x::l,k,s::ss=>by(
 have:=(ZcO k x s).2
 have:=Ze6 l (k+1) ss
 simp only[lab,List.length_append,List.length_cons]
 omega)
theorem Ze7: ∀(l:List Nd) (k:Nat) (ss:List Nat),(eff k l ss).length≤l.length
 | [],_,_=>by simp[eff]
 |_::_,_,[]=>by simp[eff]
 |x::l,k,s::ss=>by(
 have:=ZcP k x s
 have:=Ze7 l (k+1) ss
 simp only[eff,List.length_append,List.length_cons]
 omega)
theorem UG {l:List Nd}(h:ZI l=0):0 < l.length∧l.length≤128:=by
 obtain⟨h1,h2,_⟩:=Qu h
 exact⟨List.length_pos_iff.2 h1,h2⟩
theorem Za6 {l:List Nd}(h:ZI l=0):(sds l [0]).length=l.length:=Ze5 l [0] [1] rfl (Qu h).2.2
theorem Zae (l:List Nd):(labB l).length≤256:=by
 unfold labB
 split
 ·have:=Ze6 l 0 (sds l [0]);have:=UG (by assumption);omega
 ·simp
theorem Zaf (l:List Nd):(effB l).length≤128:=by
 unfold effB
 split
 ·have:=Ze7 l 0 (sds l [0]);have:=UG (by assumption);omega
 ·simp
abbrev Tm:=Bool×Int
end Go.Proofs.YtmejhedegmjboaaGreat
namespace Go.Proofs.YtmejhedegmjboaaGreat
open Go.RowKit
def sc (s:Nat):Value:= .int .u8 (s:Int)
theorem ZgJ (w:World)(o:Obj){g:Nat}(h:g=w.heap.size):(w.alloc o).heap[g]?=some o:=by subst h;exact heap_alloc_new w o
theorem Zjp {α:Type}{enc:α→Value}{W:World}{g n:Nat}{cs:Array Value}{E:TypeId}{l:List α}(hg:W.heap[g]?=some (.cells cs E (0,0)))(hcs:cs.toList=l.map enc)(hn:l.length=n)(hm:n≤maxLen):Rd enc W W.heap.size (some ⟨g,0,none⟩) n n l:=by
 refine⟨hn,Nat.le_refl _,hm,(fun h=>by cases h),fun _=>⟨g,0,rfl,Zh hg,fun j hj=> ?_⟩⟩
 rw[Zb hg, ← Array.getElem?_toList,hcs]
 simp[hj]
theorem Zmj (s:Nat):(sc s).oneCell'=true:=rfl
theorem Vd (s:Nat)(w:World):Calls Tryz.prog 77 #[.int .u8 (s:Int)] w fun e w'=>e= .returned (.int .u8 (QU s:Int))∧w=w':=by
 by_cases h0:s=0
 ·(
 subst h0
 go_enter Tryz.func77,Tryz.ntmps77
 go_wp2
 go_ret
 exact⟨rfl,rfl⟩)
 have h0':((s:Int)==0)=false:=by simp;omega
 by_cases h1:s=1
 ·(
 subst h1
 go_enter Tryz.func77,Tryz.ntmps77
 go_wp2
 go_ret
 exact⟨rfl,rfl⟩)
 have h1':((s:Int)==1)=false:=by simp;omega
 have HT:Hid (QU s=2):=Hd (by unfold QU;rw[if_neg h0,if_neg h1])
 go_enter Tryz.func77,Tryz.ntmps77
 go_wp2
 go_ret
 exact⟨by rw[HT.out];rfl,rfl⟩
theorem VW (x:Nd)(s:Nat)(w:World)(h0:0≤x.n)(h8:x.n≤8):
  Calls Tryz.prog 124 #[ndv x,.int .u8 (s:Int)] w fun e w'=> ∃A n c,e= .returned (.slice A n c)∧Rd sc w' w'.heap.size A n c (UF x s).reverse∧Below w.heap.size w w':=by
 have HB:Hid (UF x s=if x.k=4 then [2] else if x.k=5 then [QU s,s] else List.replicate x.n.toNat s):=Hd rfl
 unfold ndv
 obtain⟨xk,xm,xs,xn,xlv,xln,xpv,xpn,xev,xen⟩:=x
 simp only at h0 h8 HB ⊢
 obtain⟨q,rfl⟩:=Int.eq_ofNat_of_zero_le h0
 have hal:Below w.heap.size w (w.alloc (.cells #[.int .u8 xk,.int .i64 xm,.string (str xs),.int .i64 (q:Int),.bool xlv,.int .u64 xln,.bool xpv,.int .u64 xpn,.bool xev,.int .u64 xen] 116)):=bA
 by_cases h4:xk=4
 ·(
 subst h4
 rw[if_pos rfl] at HB
 go_enter Tryz.func124,Tryz.ntmps124
 go_wp2
 go_ret
 refine⟨_,_,_,rfl,?_,hal.alloc hal.size _⟩
 rw[HB.out]
 exact Zjp (ZgJ _ _ (by simp)) rfl rfl (by unfold maxLen;omega))
 have h4':(xk==4)=false:=by simpa using h4
 rw[if_neg h4] at HB
 by_cases h5:xk=5
 ·(
 subst h5
 rw[if_pos rfl] at HB
 go_enter Tryz.func124,Tryz.ntmps124
 go_wp2_with fail
 refine(Vd s _).mono ?_
 rintro e w1 ⟨rfl,rfl⟩
 go_wp2_with fail
 go_ret
 refine⟨_,_,_,rfl,?_,hal.alloc hal.size _⟩
 rw[HB.out]
 exact Zjp (ZgJ _ _ (by simp)) rfl rfl (by unfold maxLen;omega))
 have h5':(xk==5)=false:=by simpa using h5
 rw[if_neg h5,Int.toNat_natCast] at HB
 have HAL:=Hd hal
 clear hal
 go_enter Tryz.func124,Tryz.ntmps124
 go_wp2_with fail
 refine(Zcc (w.heap.size+1) 0 1 (s:Int) q _ (by omega) ?_ ?_).mono ?_
 ·simp
 ·rw[World.cell?_alloc_at _ _ _ _ (by simp)]
  rfl
 rintro e w6 ⟨g,rfl,hg,hb⟩
 go_wp2_with fail
 go_ret
 refine⟨_,_,_,rfl,?_,?_⟩
 ·(
 rw[HB.out,List.reverse_replicate]
 refine⟨List.length_replicate,Nat.le_refl _,by unfold maxLen;omega,(fun h=>by cases h),fun h=>⟨g,0,rfl,Zh hg,fun j hj=> ?_⟩⟩
 rw[Zb hg]
 simp only[List.length_replicate] at hj
 simp[sc,hj])
 ·have h1:=HAL.out.alloc HAL.out.size (.cells #[.int .u8 (s:Int)] 65)
  exact h1.trans (hb.mono h1.size)
end Go.Proofs.YtmejhedegmjboaaGreat
namespace Go.Proofs.YtmejhedegmjboaaGreat
open Go.RowKit
def po (p:Nat):Nat:=if p=0 then 4 else if p=1 then 6 else 8
def Nd.tm (x:Nd)(p:Nat):Tm:=if p=0 then(x.lv,x.ln) else if p=1 then(x.pv,x.pn) else(x.ev,x.en)
theorem ZbD (A:Option Addr)(m c:Nat)(w:World):Calls Tryz.prog 50 #[.slice A m c] w fun e w'=>e= .returned (.func (.func 92) #[] #[.pointer (some ⟨w.heap.size,0,none⟩)])∧w'=w.alloc (.cells #[.slice A m c] 47):=by
 go_enter Tryz.func50,Tryz.ntmps50
 go_wp2
 go_ret
 exact⟨rfl,rfl⟩
theorem Zet (k p Bf B:Nat)(A:Option Addr)(m c:Nat)(l:List Nd)(w:World)(hcell:w.cell? ⟨Bf,0,none⟩=some (.slice A m c))(hr:Ns w B A m c l)(hk:k < l.length)(hp:p≤2):
  Calls Tryz.prog 92 #[.int .i64 (k:Int),.int .u8 (p:Int),.pointer (some ⟨Bf,0,none⟩)] w fun e w'=>(∃b o,A=some ⟨b,o,none⟩∧e= .returned (.pointer (some ⟨b,o+k*10+po p,none⟩)))∧w=w':=by
 have hl:=hr.len
 have hcap:=hr.cap
 have htop:=hr.top
 unfold maxLen at htop
 obtain⟨b,o,rfl,hbb,-⟩:=hr.node hk
 rw[hl] at hk
 clear hr
 have h:p=0∨p=1∨p=2:=by omega
 clear hp
 rcases h with rfl|rfl|rfl
 all_goals(
 go_enter Tryz.func92,Tryz.ntmps92
 go_wp2
 go_ret
 exact⟨⟨b,o,rfl,rfl⟩,rfl⟩)
def spv (q:Sp):Value:= .agg #[.int .i64 (q.n:Int),.int .u8 (q.p:Int),.int .u8 (q.s:Int),.bool q.v,.int .u64 q.z]
def spc (q:Sp):List Value:= [.int .i64 (q.n:Int),.int .u8 (q.p:Int),.int .u8 (q.s:Int),.bool q.v,.int .u64 q.z]
theorem YW (q:Sp):(spc q).length=5:=rfl
theorem Zk7 {w:World}{B n c:Nat}{b o:Nat}{l:List Nd}(h:Ns w B (some ⟨b,o,none⟩) n c l){k:Nat}(hk:k < l.length)(p:Nat):
  w.cell? ⟨b,o+k*10+po p,none⟩=some (.bool (l[k].tm p).1)∧w.cell? ⟨b,o+k*10+po p+1,none⟩=some (.int .u64 (l[k].tm p).2):=by
 obtain⟨b',o',e,-,c0,c1,c2,c3,c4,c5,c6,c7,c8,c9⟩:=h.node hk
 injection e with e
 injection e with e1 e2
 subst e1
 subst e2
 unfold po Nd.tm
 split
 ·exact⟨c4,c5⟩
 split
 ·exact⟨c6,c7⟩
 ·exact⟨c8,c9⟩
theorem ZaD (k p s Bs Bf B:Nat)(A:Option Addr)(m c:Nat)(l:List Nd)(w:World)(hs:w.cell? ⟨Bs,0,none⟩=some (.func (.func 92) #[] #[.pointer (some ⟨Bf,0,none⟩)]))(hcell:w.cell? ⟨Bf,0,none⟩=some (.slice A m c))(hr:Ns w B A m c l)(hB:B≤w.heap.size)(hk:k < l.length)(hp:p≤2):
  Calls Tryz.prog 75 #[.int .i64 (k:Int),.int .u8 (p:Int),.int .u8 (s:Int),.pointer (some ⟨Bs,0,none⟩)] w fun e w'=>e= .returned (spv ⟨k,p,s,(l[k].tm p).1,(l[k].tm p).2⟩)∧Below w.heap.size w w':=by
 have hal: ∀o:Obj,Below w.heap.size w (w.alloc o):=fun o=>(Below.refl _ _).alloc lR o
 have hs1: ∀o:Obj,(w.alloc o).cell? ⟨Bs,0,none⟩=some (.func (.func 92) #[] #[.pointer (some ⟨Bf,0,none⟩)]):=fun o=>((hal o).cell (p:=⟨Bs,0,none⟩) (World.block_lt_of_cell? w ⟨Bs,0,none⟩ hs)).trans hs
 have hf1: ∀o:Obj,(w.alloc o).cell? ⟨Bf,0,none⟩=some (.slice A m c):=fun o=>((hal o).cell (p:=⟨Bf,0,none⟩) (World.block_lt_of_cell? w ⟨Bf,0,none⟩ hcell)).trans hcell
 have hr1: ∀o:Obj,Ns (w.alloc o) B A m c l:=fun o=>hr.below ((hal o).mono hB)
 obtain⟨b,o,rfl,hbb,-⟩:=hr.node hk
 have ht:=fun o'=>Zk7 (hr1 o') hk p
 have HF:=Hd (fun o'=>Zet k p Bf B _ m c l (w.alloc o') (hf1 o') (hr1 o') hk hp)
 have ht0:=fun o'=>(ht o').1
 have ht1:=fun o'=>(ht o').2
 clear ht hr1 hf1 hr hcell hs
 generalize (l[k].tm p).1=tv at*
 generalize (l[k].tm p).2=tn at*
 go_enter Tryz.func75,Tryz.ntmps75
 go_wp2_with fail
 refine(HF.out _).mono ?_
 rintro e w1 ⟨⟨b',o',heq,rfl⟩,rfl⟩
 injection heq with heq
 injection heq with e1 e2
 subst e1
 subst e2
 generalize haa:o+k*10+po p=a at*
 clear haa
 go_wp2_with fail
 exact bodyPost_ret (results_cell_row (P:=Tryz.prog) rfl _ _ w.heap.size 67 _ (0,0) _ rfl (heap_alloc_new w _) Tryz.underlying67 rfl rfl) rfl ⟨rfl,hal _⟩
theorem ZiB (k s Bs Bf B:Nat)(A:Option Addr)(m c:Nat)(l:List Nd)(w:World)(hs:w.cell? ⟨Bs,0,none⟩=some (.func (.func 92) #[] #[.pointer (some ⟨Bf,0,none⟩)]))(hcell:w.cell? ⟨Bf,0,none⟩=some (.slice A m c))(hr:Ns w B A m c l)(hB:B≤w.heap.size)(hk:k < l.length):
  Calls Tryz.prog 75 #[.int .i64 (k:Int),.int .u8 0,.int .u8 (s:Int),.pointer (some ⟨Bs,0,none⟩)] w fun e w'=>e= .returned (.agg #[.int .i64 (k:Int),.int .u8 0,.int .u8 (s:Int),.bool l[k].lv,.int .u64 l[k].ln])∧Below w.heap.size w w':=
 ZaD k 0 s Bs Bf B A m c l w hs hcell hr hB hk (by omega)
theorem Zk8 (k s Bs Bf B:Nat)(A:Option Addr)(m c:Nat)(l:List Nd)(w:World)(hs:w.cell? ⟨Bs,0,none⟩=some (.func (.func 92) #[] #[.pointer (some ⟨Bf,0,none⟩)]))(hcell:w.cell? ⟨Bf,0,none⟩=some (.slice A m c))(hr:Ns w B A m c l)(hB:B≤w.heap.size)(hk:k < l.length):
  Calls Tryz.prog 75 #[.int .i64 (k:Int),.int .u8 1,.int .u8 (s:Int),.pointer (some ⟨Bs,0,none⟩)] w fun e w'=>e= .returned (.agg #[.int .i64 (k:Int),.int .u8 1,.int .u8 (s:Int),.bool l[k].pv,.int .u64 l[k].pn])∧Below w.heap.size w w':=
 ZaD k 1 s Bs Bf B A m c l w hs hcell hr hB hk (by omega)
theorem ZiC (k s Bs Bf B:Nat)(A:Option Addr)(m c:Nat)(l:List Nd)(w:World)(hs:w.cell? ⟨Bs,0,none⟩=some (.func (.func 92) #[] #[.pointer (some ⟨Bf,0,none⟩)]))(hcell:w.cell? ⟨Bf,0,none⟩=some (.slice A m c))(hr:Ns w B A m c l)(hB:B≤w.heap.size)(hk:k < l.length):
  Calls Tryz.prog 75 #[.int .i64 (k:Int),.int .u8 2,.int .u8 (s:Int),.pointer (some ⟨Bs,0,none⟩)] w fun e w'=>e= .returned (.agg #[.int .i64 (k:Int),.int .u8 2,.int .u8 (s:Int),.bool l[k].ev,.int .u64 l[k].en])∧Below w.heap.size w w':=
 ZaD k 2 s Bs Bf B A m c l w hs hcell hr hB hk (by omega)
end Go.Proofs.YtmejhedegmjboaaGreat
namespace Go.Proofs.YtmejhedegmjboaaGreat
open Go.RowKit Go.Shelf
attribute [local go_sem] Oper.semAt_some
structure StepT (n₀:Nat)(A B:World):Prop where
 bel:Below n₀ A B
 keep: ∀(b:Nat) (o:Obj),A.heap[b]?=some o→(∀cs z,o≠ .cells cs 65 z)→B.heap[b]?=some o
theorem StepT.of_below {n₀:Nat}{A B:World}(h:Below A.heap.size A B)(hn:n₀≤A.heap.size):StepT n₀ A B:=
 ⟨h.mono hn,fun b _ hb _=>(h.block b (Zh hb)).trans hb⟩
theorem StepT.of_own {n₀ base n:Nat}{A B:World}{v:Value}{xs:List Value}(h:A.ownsRow base 65 1 v n xs)(hg:A.grownBy B v.ownBlock)(hn:n₀≤base)(hs:n₀≤A.heap.size):StepT n₀ A B:=by
 refine⟨(Below.refl n₀ A).grown hg hs fun j hj=>Nat.le_trans hn (h.lt j hj).1,fun b o hb ho=>(hg.block b (Zh hb) fun e=> ?_).trans hb⟩
 rcases h.2 with⟨rfl,_⟩|⟨g,cap,cur,rfl,_,hgb,_⟩
 ·cases e
 ·have e':b=g:=by simpa [Value.ownBlock] using e
  rw[e',hgb] at hb
  injection hb with hb
  exact ho _ _ hb.symm
theorem StepT.others {n₀:Nat}{A B:World}(h:StepT n₀ A B):KeepsOthers A B:=
 ⟨h.bel.size,fun k o hk ho=>h.keep k o hk fun cs z e=>by rw[e] at ho;cases ho⟩
structure KpT (n₀:Nat)(A B:World):Prop where
 bel:Below n₀ A B
 keep: ∀(b:Nat) (cs:Array Value) (t:TypeId) (z:Nat×Nat),A.heap[b]?=some (.cells cs t z)→t≠25→t≠67→B.heap[b]?=some (.cells cs t z)
theorem ZdU {n₀:Nat}{A B C:World}(h:KpT n₀ A B)(k:KpT n₀ B C):KpT n₀ A C:=
 ⟨h.bel.trans k.bel,fun b cs t z hb h1 h2=>k.keep b cs t z (h.keep b cs t z hb h1 h2) h1 h2⟩
theorem ZmO {n₀:Nat}{w:World}(hn:n₀≤w.heap.size)(W:World)(l:Nat)(o o':Obj)(hl:w.heap.size≤l)(h:W.heap[l]?=some o)(h1:o.isCells=false):KpT n₀ W (W.putObj l o'):=
 ⟨(Below.refl n₀ W).grown (grownBy_putObj' W l o') (by have:=Zh h;omega) (fun k e=>by cases e;omega),fun b cs t z hb _ _=>by
  have:b≠l:=by(
 rintro rfl
 rw[hb] at h
 cases h
 cases h1)
  exact(World.putObj_heap_other (by omega)).trans hb⟩
theorem Zj2 {n₀ base n:Nat}{A B:World}{v:Value}{xs:List Value}(h:A.ownsRow base 65 1 v n xs)(k:KpT n₀ A B):B.ownsRow base 65 1 v n xs:=by
 refine⟨h.1,?_⟩
 rcases h.2 with hn|⟨g,cap,cur,hv,hg,hgg,r⟩
 ·exact .inl hn
 ·exact .inr ⟨g,cap,cur,hv,hg,k.keep g _ _ _ hgg (by decide) (by decide),r⟩
def Vm (l:List Nd)(k:Nat):Nat:=(sds l [0]).getD k 0
def KH (l:List Nd)(x:Fin l.length):Array Value:= #[.int .i64 (x.val:Int),.int .u8 (Vm l x.val:Int)]
theorem Zhu {n k:Nat}(h:k < n):(List.finRange n).take (k+1)=(List.finRange n).take k++ [⟨k,h⟩]:=by
 rw[List.take_succ_eq_append_getElem (by simpa using h)]
 simp
theorem Zhv (nn:Nat)(A:Option Addr)(m c:Nat)(w:World):
  CallsIn Fence.wide nn Tryz.prog 76 #[.slice A m c] w fun e w'=>e= .returned (.func (.func 123) #[] #[.pointer (some ⟨w.heap.size,0,none⟩)])∧w'=w.alloc (.cells #[.slice A m c] 47):=by
 refine callsIn_of_wp Tryz.func76 rfl trivial ?_ rfl
 simp only[Tryz.ntmps76,List.size_toArray,List.length_cons,List.length_nil,Nat.reduceAdd,Nat.reduceSub,Array.replicate_succ,Array.replicate_zero,List.push_toArray,List.append_toArray,List.nil_append,List.cons_append]
 gi_wp2
 go_ret
 exact⟨rfl,rfl⟩
theorem Zhw:(Tryz.prog.info? 65).map (fun i=>(i.zero,i.size,i.bytes))=some (some (.int .u8 0),1,1):=by kernel_rfl
def Zj3 (l:List Nd)(B:Nat)(A:Option Addr)(m c:Nat)(J:List (Fin l.length)→World→Prop)(v3 v11:Value)(wr:World):Prop:=
 ∃(k:Nat) (st dst:List Nat) (A3:Option Addr) (N3 c3:Nat),v11= .int .i64 (k:Int)∧v3= .slice A3 N3 c3∧Hid (st.length=N3)∧k≤l.length∧wr.ownsRow B 65 1 (.slice A3 N3 c3) N3 (st.reverse.map sc)∧sds l [0]=(sds l [0]).take k++sds (l.drop k) st∧st.length≤1+8*k∧st.length=dst.length∧chk (l.drop k) dst=0∧
  Ns wr B A m c l∧B≤wr.heap.size∧J ((List.finRange l.length).take k) wr
theorem Zj4 {w:World}{base n c g:Nat}{xs:List Value}{x:Value}{E:TypeId}(h:w.ownsRow base E 1 (.slice (some ⟨g,0,none⟩) (n+1) c) (n+1) (xs++ [x])):w.ownsRow base E 1 (.slice (some ⟨g,0,none⟩) n c) n xs:=by
 have hl:xs.length=n:=by(
 have:=h.1
 rw[List.length_append,List.length_singleton] at this
 omega)
 rcases h.2 with⟨hv,_⟩|⟨g',cap,cur,hv,hb,hg,hnc,hcm,hcs,htake⟩
 ·cases hv
 ·(
 injection hv with h1 h2 h3
 injection h1 with h1
 injection h1 with h1
 subst h1
 subst h3
 refine⟨by rw[hl];omega,.inr ⟨g,c,cur,rfl,hb,hg,by omega,hcm,hcs,?_⟩⟩
 have:=congrArg (List.take n) htake
 rw[List.take_take,Nat.mul_one,Nat.min_eq_left (by omega),List.take_left' hl] at this
 rw[Nat.mul_one]
 exact this)
theorem Zhx {l:List Nd}{k:Nat}{st dst:List Nat}(hk:k < l.length)(hs:sds l [0]=(sds l [0]).take k++sds (l.drop k) st)(hd:st.length=dst.length)(hc:chk (l.drop k) dst=0):
  ∃s st' d dst',st=s::st'∧dst=d::dst'∧Vm l k=s∧sds l [0]=(sds l [0]).take (k+1)++sds (l.drop (k+1)) (UF l[k] s++st')∧0≤l[k].n∧l[k].n≤8∧(UF l[k] s++st').length=(opens l[k] d dst').length∧chk (l.drop (k+1)) (opens l[k] d dst')=0∧(UF l[k] s).length≤8:=by
 rw[List.drop_eq_getElem_cons hk] at hs hc
 cases dst with
 |nil=>simp[chk] at hc
 |cons d dst'=>(
 cases st with
 |nil=>simp at hd
 |cons s st'=>(
 rw[Zf6] at hc
 split at hc
 ·(
 rename_i hm
 split at hc
 ·cases hc
 ·(
 rename_i hno
 have h0:=Nd.may_kids hm
 have hbl:=Za5 s hm
 simp only[sds] at hs
 have htl:((sds l [0]).take k).length=k:=by(
 have h1:=congrArg List.length hs
 rw[List.length_append,List.length_cons] at h1
 rw[List.length_take] at h1 ⊢
 omega)
 have hat:Vm l k=s:=by(
 unfold Vm
 rw[hs,List.getD_eq_getElem?_getD,List.getElem?_append_right (by rw[htl];exact Nat.le_refl _),htl]
 simp)
 refine⟨s,st',d,dst',rfl,rfl,hat,?_,h0,by omega,?_,hc,by omega⟩
 ·have e1:(sds l [0]).take (k+1)=(sds l [0]).take k++ [s]:=by
   conv=>lhs;rw[hs]
   rw[List.take_append,htl,List.take_of_length_le (by rw[htl];omega)]
   simp
  rw[e1,List.append_assoc]
  exact hs
 ·unfold opens
  rw[List.length_append,List.length_append,hbl,List.length_replicate]
  simp only[List.length_cons] at hd
  omega))
 ·cases hc))
theorem Zfh (nn yl Bn n₀:Nat)(A:Option Addr)(m c:Nat)(l:List Nd)(hc:ZI l=0)(J:List (Fin l.length)→World→Prop)(hJ: ∀pre A B,J pre A→StepT n₀ A B→J pre B)
  (hY: ∀pre x W,J pre W→pre.length < (List.finRange l.length).length→YieldAt Fence.wide (nn - 1) Tryz.prog yl (KH l x) W fun e W'=>e= .returned (.bool true)∧J (pre++ [x]) W'∧KpT n₀ W W')
  (W:World) (hcn:W.cell? ⟨Bn,0,none⟩=some (.slice A m c)) (hL:Ns W n₀ A m c l) (hn₀:n₀≤W.heap.size) (h0:J [] W):
  CallsIn Fence.wide nn Tryz.prog 123 #[.func (.yield yl) #[] #[],.pointer (some ⟨Bn,0,none⟩)] W fun e W'=>(∃v,e= .returned v)∧J (List.finRange l.length) W':=by
 obtain⟨i0,hi0,hz0,hz1,hz2⟩:=info_parts Zhw
 have HL:=Hd hL.len
 have hl128:m≤128:=by rw[← HL.out];exact(UG hc).2
 have HJ:=Hd hJ
 have HY:=Hd hY
 have HCH:=Hd (Qu hc).2.2
 have hown0:(W.alloc (.cells #[.int .u8 0] 65)).ownsRow n₀ 65 1 (.slice (some ⟨W.heap.size,0,none⟩) 1 1) 1 ([0].reverse.map sc):=
  ⟨rfl,.inr ⟨W.heap.size,1,#[.int .u8 0],rfl,hn₀,heap_alloc_new W _,Nat.le_refl _,by unfold maxLen;omega,rfl,rfl⟩⟩
 have hcn1:(W.alloc (.cells #[.int .u8 0] 65)).cell? ⟨Bn,0,none⟩=some (.slice A m c):=(World.cell?_alloc_lt W _ ⟨Bn,0,none⟩ (World.block_lt_of_cell? W ⟨Bn,0,none⟩ hcn)).trans hcn
 have hal:Below W.heap.size W (W.alloc (.cells #[.int .u8 0] 65)):=bA
 have hJ1:=hJ [] W _ h0 (StepT.of_below hal hn₀)
 have hL1:=hL.below (hal.mono hn₀)
 have hsz1:n₀≤(W.alloc (.cells #[.int .u8 0] 65)).heap.size:=Nat.le_trans hn₀ hal.size
 have H0:=Hd (show Zj3 l n₀ A m c J (.slice (some ⟨W.heap.size,0,none⟩) 1 1) (.int .i64 0) (W.alloc (.cells #[.int .u8 0] 65)) from
  ⟨0,[0],[1],_,_,_,rfl,rfl,rfl,Nat.zero_le _,hown0,by simp,by simp,rfl,by simpa using HCH.out,hL1,hsz1,by simpa using hJ1⟩)
 clear hJ hY hown0 hal hJ1 hL1 hsz1 hL h0 hn₀ HCH
 refine callsIn_of_wp Tryz.func123 rfl trivial ?_ rfl
 simp only[Tryz.ntmps123,List.size_toArray,List.length_cons,List.length_nil,Nat.reduceAdd,Nat.reduceSub,Array.replicate_succ,Array.replicate_zero,List.push_toArray,List.append_toArray,List.nil_append,List.cons_append]
 gi_wp2
 gi_loopw [3,11] (fun v3 v11 wr=>Zj3 l n₀ A m c J v3 v11 wr) (fun _ v11 _=>m - (intOf v11).toNat)
 case atStart=>exact H0.out
 case round=>(
 clear H0
 obtain⟨k,st,dst,A3,N3,c3,rfl,rfl,HN,hk,hown,hsd,hst,hdl,hch,hr,hB,hJs⟩:=hrel
 by_cases hlt:k < m
 ·(
 have hk':k < l.length:=by rw[HL.out];exact hlt
 obtain⟨s,st',d,dst',rfl,rfl,hat,hsd2,hx0,hx8,hdl2,hch2,hb8⟩:=Zhx hk' hsd hdl hch
 obtain⟨b,o,rfl,hbb,e0,e1,e2,e3,e4,e5,e6,e7,e8,e9⟩:=hr.node hk'
 have HS:=Hd (Zhu hk')
 have HAT:=Hd hat
 have HSD:=Hd hsd2
 have HCH2:=Hd hch2
 have HDL2:=Hd hdl2
 have HB8:=Hd hb8
 clear hsd hdl hch hsd2 hch2 hdl2 hat hb8 hcn hcn1
 obtain⟨N,rfl⟩: ∃N,N3=N+1:=⟨st'.length,HN.out.symm⟩
 replace HN:Hid (st'.length=N):=Hd (by have:=HN.out;rw[List.length_cons] at this;omega)
 rw[List.length_cons,HN.out] at hst
 rw[List.reverse_cons,List.map_append] at hown
 obtain⟨q,rfl⟩: ∃q,A3=some ⟨q,0,none⟩:=by(
 rcases hown.2 with⟨_,h⟩|⟨g,cap,cur,hv,_⟩
 ·omega
 ·injection hv with h1 _ _
  exact⟨g,h1⟩)
 have hncap:N+1≤c3∧c3≤maxLen∧q < wr.heap.size:=by(
 rcases hown.2 with⟨h,_⟩|⟨g,cap,cur,hv,_,hg,hnc,hcm,_⟩
 ·cases h
 ·(
 injection hv with h1 h2 h3
 injection h1 with h1
 injection h1 with h1
 subst h1
 subst h3
 exact⟨hnc,hcm,Zh hg⟩))
 have hlast:wr.cell? ⟨q,N,none⟩=some (.int .u8 (s:Int)):=by
  have:=hown.cells (g:=q) rfl N (sc s) (by rw[List.getElem?_append_right (by simp[HN.out])];simp[HN.out])
  rwa [Addr.add_lit,Nat.zero_add] at this
 have hcq:c3≤9223372036854775807:=by have:=hncap.2.1;unfold maxLen at this;omega
 have hs: ∀W,(Instr.slice 195 (.slice (some ⟨q,0,none⟩) (N+1) c3) none (some (.int .i64 (N:Int))) none).run Tryz.prog W= .ok (.slice (some ⟨q,0,none⟩) N c3) W:=by(
 intro W
 rw[run_slice_h W 195 _ _ _ (by rw[show Tryz.prog.elem 195=65 by simp[Program.elem,Tryz.underlying195]];exact Tryz.underlying195) .i64 _ (by omega) (by omega),show Tryz.prog.elem 195=65 by simp[Program.elem,Tryz.underlying195],Qq]
 simp[Result.andThen,sliced,Addr.add_lit])
 have hcut:=Zj4 hown
 have HB:Hid (∀W,Calls Tryz.prog 124 #[ndv l[k],.int .u8 (s:Int)] W fun e w'=> ∃A n c,e= .returned (.slice A n c)∧Rd sc w' w'.heap.size A n c (UF l[k] s).reverse∧Below W.heap.size W w'):=Hd fun W=>VW l[k] s W hx0 hx8
 have HNS:=Hd hr
 unfold ndv at HB
 generalize l[k]=x at*
 obtain⟨xk,xm,xs,xn,xlv,xln,xpv,xpn,xev,xen⟩:=x
 simp only at e0 e1 e2 e3 e4 e5 e6 e7 e8 e9 HB
 obtain⟨xcs,hxcs⟩: ∃xcs:Array Value,xcs= #[.int .u8 xk,.int .i64 xm,.string (str xs),.int .i64 xn,.bool xlv,.int .u64 xln,.bool xpv,.int .u64 xpn,.bool xev,.int .u64 xen]:=⟨_,rfl⟩
 have hal:Below wr.heap.size wr (wr.alloc (.cells xcs 116)):=bA
 have hlast':(wr.alloc (.cells xcs 116)).cell? ⟨q,N,none⟩=some (.int .u8 (s:Int)):=(hal.cell (p:=⟨q,N,none⟩) hncap.2.2).trans hlast
 have hJa:=HJ.out _ _ _ hJs (StepT.of_below hal hB)
 have hblk:=heap_alloc_new wr (.cells xcs 116)
 have hcuta:=hcut.alloc (.cells xcs 116)
 obtain⟨fn,tmps,assign,body,hy,hR⟩:=HY.out _ ⟨k,hk'⟩ _ hJa (by rw[List.length_take,List.length_finRange];omega)
 rw[show KH l ⟨k,hk'⟩= #[.int .i64 (k:Int),.int .u8 (s:Int)] by show(#[Value.int .i64 (k:Int),Value.int .u8 (Vm l k:Int)]:Array Value)=_;rw[HAT.out]] at hy
 rw[← HS.out] at hR
 have hR':=hR.mono (R':=fun e W'=>e= .returned (.bool true)∧Hid (J ((List.finRange l.length).take (k+1)) W'∧KpT n₀ (wr.alloc (.cells xcs 116)) W')) (by
 rintro e W' ⟨rfl,h1,h2⟩
 exact⟨rfl,h1,h2⟩)
 have HBA:=Hd (Nat.le_trans hB hal.size)
 have hmx:Tryz.prog.follows .mixedOrders=true:=by kernel_rfl
 clear hR hJs hJa hown hcut hlast hx0 hx8 hr
 subst hxcs
 have HBLK:=Hd hblk
 have HCUT:=Hd hcuta
 have HAL:=Hd hal
 clear hblk hcuta hal
 gi_wp2
 refine⟨fun e=>(by cases e),hR'.mono ?_⟩
 rintro e W3 ⟨rfl,HJ3⟩
 clear hy hR' hlast'
 have hblk3:=HJ3.out.2.keep _ _ 116 (0,0) HBLK.out (by decide) (by decide)
 have hown3:=Zj2 HCUT.out HJ3.out.2
 have hr3:=(HNS.out.below (HAL.out.mono hB)).below HJ3.out.2.bel
 have hsz3:n₀≤W3.heap.size:=Nat.le_trans HBA.out HJ3.out.2.bel.size
 have HJK:=Hd HJ3.out.1
 clear HJ3 HBLK HCUT HNS HAL e0 e1 e2 e3 e4 e5 e6 e7 e8 e9
 have HO3:=Hd hown3
 have HR3:=Hd hr3
 have HK3:=Hd hblk3
 clear hown3 hr3 hblk3
 gi_wp2
 refine Zu (VV _) [0,1,2,3,4,5,6,7] [5,6] 8 (fun w'=>w'.heap[wr.heap.size]?=some (.cells #[.int .u8 xk,.int .i64 xm,.string (str xs),.int .i64 xn,.bool xlv,.int .u64 xln,.bool xpv,.int .u64 xpn,.bool xev,.int .u64 xen] 116 (0,0))) hmx (by kernel_rfl) (by kernel_rfl) (by kernel_rfl) (by kernel_rfl) HK3.out ?_
 simp only[steps,sE,sD]
 repeat(first
  |(refine Zd (v:= ?_) rfl rfl ?_ ?_;rotate_left;(focus(rintro w' hS;have s0:=(Zb (i:=0) hS).trans rfl;have s1:=(Zb (i:=1) hS).trans rfl;have s2:=(Zb (i:=2) hS).trans rfl;have s3:=(Zb (i:=3) hS).trans rfl;have s4:=(Zb (i:=4) hS).trans rfl;have s5:=(Zb (i:=5) hS).trans rfl;have s6:=(Zb (i:=6) hS).trans rfl;have s7:=(Zb (i:=7) hS).trans rfl;have s8:=(Zb (i:=8) hS).trans rfl;have s9:=(Zb (i:=9) hS).trans rfl;clear hS;go_simp;try with_reducible rfl));simp only[Act.put,sA,sB,sC]))
 refine Ze rfl rfl (fun K hK=> ?_)
 go_simp
 refine(HB.out _).mono ?_
 rintro e w4 ⟨A4,n4,c4,rfl,hrd4,hb4⟩
 have hb4':Below W3.heap.size W3 w4:=⟨hb4.os,hb4.tape,hb4.output,hb4.size,hb4.block⟩
 have hblk4:=(hb4'.block wr.heap.size (Zh HK3.out)).trans HK3.out
 have hown4:=Zh0 HO3.out hb4'
 have hJ4:=HJ.out _ _ _ HJK.out (StepT.of_below hb4' hsz3)
 have hr4:=HR3.out.below (hb4'.mono hsz3)
 have hsz4:n₀≤w4.heap.size:=Nat.le_trans hsz3 hb4'.size
 refine hK.out _ _ (fun _=>hblk4) ?_
 clear hK K
 try simp only[Act.put,sA,sB,sC]
 refine Ze rfl rfl (fun K hK=> ?_)
 have h4l:(UF ⟨xk,xm,xs,xn,xlv,xln,xpv,xpn,xev,xen⟩ s).reverse.length≤8:=by rw[List.length_reverse];exact HB8.out
 have h4n:(UF ⟨xk,xm,xs,xn,xlv,xln,xpv,xpn,xev,xen⟩ s).length=n4:=by have:=hrd4.len;rwa [List.length_reverse] at this
 rw[hrd4.len] at h4l
 refine Ko _ (.tmp 30) (.tmp 33) 195 rfl n₀ 65 i0 (.int .u8 0) 1 Tryz.underlying195 hi0 hz0 hz1 hz2 rfl Zmj (.slice (some ⟨q,0,none⟩) N c3) N st'.reverse rfl hown4 w4.heap.size A4 n4 c4 _ rfl hrd4 (by unfold maxLen;omega) (by omega) hsz4 ?_
 intro A5 n5 c5 w5 hn5 hown5 hg5 _
 have hst5:StepT n₀ w4 w5:=StepT.of_own hown4 hg5 lR hsz4
 have hblk5:=hst5.keep _ _ hblk4 (fun cs z e=>by cases e)
 refine hK.out _ _ (fun _=>hblk5) ?_
 clear hK K hblk4 hblk5
 try simp only[Act.put,sA,sB,sC]
 refine Zd rfl rfl (fun w' _=>by go_simp;try with_reducible rfl) ?_
 try simp only[Act.put,sA,sB,sC]
 refine Vf ?_
 have hJ5:=HJ.out _ _ _ hJ4 hst5
 have hr5:=hr4.below hst5.bel
 have hsz5:n₀≤w5.heap.size:=Nat.le_trans hsz4 hst5.bel.size
 rw[← List.reverse_append] at hown5
 have HREL:=Hd (show Zj3 l n₀ (some ⟨b,o,none⟩) m c J (.slice A5 n5 c5) (.int .i64 ((k:Int)+1)) w5 from
  ⟨k+1,_,_,A5,n5,c5,by go_num,rfl,Hd (by rw[List.length_append,HN.out,h4n,hn5.out,Nat.add_comm]),by omega,hown5,HSD.out,by rw[List.length_append,h4n,HN.out];omega,HDL2.out,HCH2.out,hr5,hsz5,hJ5⟩)
 clear hJ5 hr5 hsz5 hown5 hst5 hJ4 hr4 hsz4 hrd4 hb4 hb4' hown4 HO3 HR3 HK3 HJK HSD HCH2 HDL2 HB hg5 hn5
 gi_wp2
 go_roundw
 case rel=>exact HREL.out
 case measure=>simp[intOf];omega)
 ·(
 obtain rfl:k=m:=by have:=HL.out;omega
 have hfin:(List.finRange l.length).take k=List.finRange l.length:=List.take_of_length_le (by simp[HL.out])
 rw[hfin] at hJs
 clear hsd hdl hch
 gi_wp2
 go_end0
 exact⟨⟨_,rfl⟩,hJs⟩))
theorem ZbV (nn Bn n₀:Nat)(A:Option Addr)(m c:Nat)(l:List Nd)(hc:ZI l=0)(w:World)(hcn:w.cell? ⟨Bn,0,none⟩=some (.slice A m c))(hL:Ns w n₀ A m c l)(hn₀:n₀≤w.heap.size):
  Comes Tryz.prog nn 123 #[.pointer (some ⟨Bn,0,none⟩)] (KH l) (StepT n₀) (KpT n₀) (List.finRange l.length) w:=fun yl J W hW hJ hY h0=>
 Zfh nn yl Bn n₀ A m c l hc J hJ hY W ((hW.cell (p:=⟨Bn,0,none⟩) (World.block_lt_of_cell? w ⟨Bn,0,none⟩ hcn)).trans hcn) (hL.below (hW.mono hn₀)) (Nat.le_trans hn₀ hW.size) h0
end Go.Proofs.YtmejhedegmjboaaGreat
