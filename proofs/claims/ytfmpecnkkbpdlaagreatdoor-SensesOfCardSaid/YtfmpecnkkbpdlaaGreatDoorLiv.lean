import Derived.ProofKit
import Derived.OpenShut
import Derived.ShutString
import Derived.ChangeOld
import Derived.Deep.Slices
import Derived.Test.YtfmpecnkkbpdlaaGreatDoorBoEnds
import Derived.Test.YtfmpecnkkbpdlaaGreatDoorLists
import Derived.Test.YtfmpecnkkbpdlaaGreatDoorLssC
import Derived.Test.YtfmpecnkkbpdlaaGreatDoorOfs
set_option maxRecDepth 100000
set_option maxHeartbeats 4000000
namespace Go.Proofs.YtfmpecnkkbpdlaaGreatDoor.Bo
open Go.ChangeShapes Go.WideShapes Go.ChangeAt Go.RowKit Go.Deep
theorem Zc {w w':World}{p:Addr}{v:Value}(h:w.cell? p=some v)(hb:Below w.heap.size w w'):w'.cell? p=some v:=(hb.cell (World.block_lt_of_cell? w p h)).trans h
theorem c4:Tryz.prog.cellsOf 4=1:=by kernel_rfl
theorem c28:Tryz.prog.cellsOf 72=1:=by kernel_rfl
theorem c51:Tryz.prog.cellsOf 74=2:=by kernel_rfl
theorem c53:Tryz.prog.cellsOf 133=4:=by kernel_rfl
theorem Zdj {α:Type}: ∀{l:List α},l.length=2→ ∃a b,l= [a,b]
 | [a,b],_=>⟨a,b,rfl⟩
theorem ZjU {α:Type}: ∀{l:List α},l.length=4→ ∃a b c d,l= [a,b,c,d]
 | [a,b,c,d],_=>⟨a,b,c,d,rfl⟩
theorem Ziu {v:Value}{x y:Value}{l:List Value}(h:v.cells.toList=x::y::l):v= .agg (x::y::l).toArray:=by
 cases v <;> simp[Value.cells] at h
 rename_i xs
 congr 1
 apply Array.toList_inj.1
 simpa using h
section
variable {H:Type} {enc:TypeId×Value→H} {W:World}
theorem VZ {n:Nat}{cs:List Value}{x:DataW H×List MemPlace}(h:DataW.trod enc Tryz.prog W 0 (fun _=>true) true n 74 cs=some x): ∃(b:Bool) (z:Nat),cs= [.bool b,.int .u64 (z:Int)]∧z < 18446744073709551616:=by
 obtain⟨xs,m,_,_,hl,hlen,hf⟩:=DataW.trod_struct Tryz.underlying74 h
 rw[c51] at hl
 match xs,hlen with
 | [y0,y1],_=>
  have h0:DataW.trod enc Tryz.prog W 0 (fun _=>true) true m 4 (List.take (Tryz.prog.cellsOf 4) (List.drop 0 cs))=some y0:=hf 0 _ rfl
  have h1:DataW.trod enc Tryz.prog W 0 (fun _=>true) true m 72 (List.take (Tryz.prog.cellsOf 72) (List.drop 1 cs))=some y1:=hf 1 _ rfl
  rw[c4] at h0
  rw[c28] at h1
  obtain⟨b,e0,_⟩:=DataW.trod_bool Tryz.underlying4 h0
  obtain⟨z,e1,_,wz⟩:=DataW.trod_int Tryz.underlying72 h1
  obtain⟨y,rfl,hy⟩:=La.Zcw wz
  obtain⟨u0,u1,rfl⟩:=Zdj hl
  simp at e0 e1
  exact⟨b,y,by rw[e0,e1],hy⟩
theorem ZjV {n:Nat}{cs:List Value}{x:DataW H×List MemPlace}(h:DataW.trod enc Tryz.prog W 0 (fun _=>true) true n 133 cs=some x): ∃y:Bd,cs=bdc y∧y.Fit:=by
 obtain⟨xs,m,_,_,hl,hlen,hf⟩:=DataW.trod_struct Tryz.underlying133 h
 rw[c53] at hl
 match xs,hlen with
 | [y0,y1],_=>
  have h0:DataW.trod enc Tryz.prog W 0 (fun _=>true) true m 74 (List.take (Tryz.prog.cellsOf 74) (List.drop 0 cs))=some y0:=hf 0 _ rfl
  have h1:DataW.trod enc Tryz.prog W 0 (fun _=>true) true m 74 (List.take (Tryz.prog.cellsOf 74) (List.drop 2 cs))=some y1:=hf 1 _ rfl
  rw[c51] at h0 h1
  obtain⟨av,an,e0,t0⟩:=VZ h0
  obtain⟨bv,bn,e1,t1⟩:=VZ h1
  obtain⟨u0,u1,u2,u3,rfl⟩:=ZjU hl
  simp at e0 e1
  exact⟨⟨av,an,bv,bn⟩,by rw[bdc,e0.1,e0.2,e1.1,e1.2],t0,t1⟩
theorem Zds {n:Nat}{cs:List Value}{x:DataW H×List MemPlace}(h:DataW.trod enc Tryz.prog W 0 (fun _=>true) true n 26 cs=some x):
  ∃(a0:Option Addr) (len0 cap0:Nat) (l:List Bd),cs= [.slice a0 len0 cap0]∧Rs bdc 4 W W.heap.size a0 len0 cap0 l∧ ∀b∈l,b.Fit:=by
 rcases open_slice Tryz.underlying26 h with⟨hcs,_⟩|⟨x,l,c,m,n,D,Pl,hcs,_,hl,hm,hmm,_,hx⟩
 ·exact⟨none,0,0,[],hcs,Rs.nil _ _,fun _ h=>by cases h⟩
 ·have hm':m=c:=by simpa using hmm
  have each: ∀i,i < l→ ∃y:Bd,y.Fit∧ ∀j u,(bdc y)[j]?=some u→W.cell? ((x.add (i*4)).add j)=some u:=by
   intro i hi
   obtain⟨cs',h1,h2⟩:=hx i (by omega)
   obtain⟨y,rfl,hy⟩:=ZjV h2
   rw[c53] at h1
   obtain⟨_,_,hc⟩:=World.cells?_some h1
   refine⟨y,hy,fun j u hu=> ?_⟩
   have hj:j < (bdc y).length:=(List.getElem?_eq_some_iff.1 hu).1
   have:=hc j (by rw[ZE] at hj;exact hj)
   rw[this]
   exact hu
  obtain⟨f,hf,hg⟩: ∃f:Nat→Bd,(∀i,i < l→(f i).Fit)∧ ∀i,i < l→ ∀j u,(bdc (f i))[j]?=some u→W.cell? ((x.add (i*4)).add j)=some u:=
   ⟨fun i=>if h:i < l then Classical.choose (each i h) else Vg,fun i h=>by
    simp only[dif_pos h]
    exact(Classical.choose_spec (each i h)).1,fun i h=>by
    simp only[dif_pos h]
    exact(Classical.choose_spec (each i h)).2⟩
  refine⟨some x,l,c,(List.range l).map f,hcs,⟨by simp,hl,hm,(fun h=>by cases h),fun h0=> ?_⟩,fun b hb=> ?_⟩
  ·obtain⟨b,o,spot⟩:=x
   have hc0:=hg 0 (by omega) 0 _ rfl
   have hspot:spot=none:=by simpa [Addr.add] using World.cell?_spot hc0
   subst hspot
   refine⟨b,o,rfl,?_,fun j hj i u hu=> ?_⟩
   ·exact World.block_lt_of_cell? W ⟨b,o,none⟩ (by simpa [Addr.add] using hc0)
   ·rw[List.length_map,List.length_range] at hj
    simp only[List.getElem_map,List.getElem_range] at hu
    have:=hg j hj i u hu
    rwa [Addr.add_lit,Addr.add_lit] at this
  ·obtain⟨i,hi,rfl⟩:=List.mem_map.1 hb
   exact hf i (List.mem_range.1 hi)
theorem Zgj {n:Nat}{cs:List Value}{x:DataW H×List MemPlace}(h:DataW.trod enc Tryz.prog W 0 (fun _=>true) true n 22 cs=some x):
  ∃(a0:Option Addr) (len0 cap0:Nat) (l:List Nat),cs= [.slice a0 len0 cap0]∧Rd La.nm W W.heap.size a0 len0 cap0 l∧La.Fit l:=by
 obtain⟨a0,len0,cap0,e⟩: ∃a0 len0 cap0,cs= [Value.slice a0 len0 cap0]:=by
  rcases open_slice Tryz.underlying22 h with⟨hcs,_⟩|⟨x,l,c,m,n,D,Pl,hcs,_⟩
  ·exact⟨_,_,_,hcs⟩
  ·exact⟨_,_,_,hcs⟩
 subst e
 obtain⟨us,h1,h2⟩:=La.Zcx (t:=22) (e:=72) (d:=x.1) (p:=x.2) Tryz.underlying22 Tryz.underlying72 c28 ⟨n,h⟩
 exact⟨a0,len0,cap0,us,rfl,h1,h2⟩
end
end Go.Proofs.YtfmpecnkkbpdlaaGreatDoor.Bo
namespace Go.Proofs.YtfmpecnkkbpdlaaGreatDoor
open Go.ChangeShapes Go.WideShapes Go.ChangeAt Go.RowKit Go.Deep
theorem c25:Tryz.prog.cellsOf 28=5:=by kernel_rfl
theorem c31s:Tryz.prog.cellsOf 24=2:=by kernel_rfl
theorem ZkH:Tryz.prog.cellsOf 25=1:=by kernel_rfl
theorem ZkI:Tryz.prog.cellsOf 26=1:=by kernel_rfl
theorem Zln:Tryz.prog.cellsOf 22=1:=by kernel_rfl
theorem cInt:Tryz.prog.cellsOf 3=1:=by kernel_rfl
theorem ZjG {α:Type}: ∀{l:List α},l.length=5→ ∃a b c d e,l= [a,b,c,d,e]
 | [a,b,c,d,e],_=>⟨a,b,c,d,e,rfl⟩
def zV (A:Option Addr)(n c:Nat)(k:Int):Value:= .agg #[.slice A n c,.int .i64 k]
section
variable {H:Type} {enc:TypeId×Value→H} {W:World}
theorem ZaB {v:Value}{d:DataW H}{p:List MemPlace}(h:DataW.Trod enc Tryz.prog W 0 (fun _=>true) true 28 v d p):
  ∃(s:Sch) (A:Option Addr) (n c:Nat) (A1:Option Addr) (n1 c1:Nat) (A2:Option Addr) (n2 c2:Nat),v=schV s A n c A1 n1 c1 A2 n2 c2∧Uo W s A n c A1 n1 c1 A2 n2 c2∧(Lit.int .i64 s.lv).wf=true∧(Lit.int .i64 s.ev).wf=true:=by
 obtain⟨fuel,h⟩:=h
 obtain⟨xs,m,_,_,hl,hlen,hf⟩:=DataW.trod_struct Tryz.underlying28 h
 rw[c25] at hl
 match xs,hlen with
 | [y0,y1,y2,y3,y4],_=>
  have h0:DataW.trod enc Tryz.prog W 0 (fun _=>true) true m 3 (List.take (Tryz.prog.cellsOf 3) (List.drop 0 v.cells.toList))=some y0:=hf 0 _ rfl
  have h1:DataW.trod enc Tryz.prog W 0 (fun _=>true) true m 3 (List.take (Tryz.prog.cellsOf 3) (List.drop 1 v.cells.toList))=some y1:=hf 1 _ rfl
  have h2:DataW.trod enc Tryz.prog W 0 (fun _=>true) true m 25 (List.take (Tryz.prog.cellsOf 25) (List.drop 2 v.cells.toList))=some y2:=hf 2 _ rfl
  have h3:DataW.trod enc Tryz.prog W 0 (fun _=>true) true m 26 (List.take (Tryz.prog.cellsOf 26) (List.drop 3 v.cells.toList))=some y3:=hf 3 _ rfl
  have h4:DataW.trod enc Tryz.prog W 0 (fun _=>true) true m 26 (List.take (Tryz.prog.cellsOf 26) (List.drop 4 v.cells.toList))=some y4:=hf 4 _ rfl
  rw[cInt] at h0 h1
  rw[ZkH] at h2
  rw[ZkI] at h3 h4
  obtain⟨k,e0,_,w0⟩:=DataW.trod_int Tryz.underlying3 h0
  obtain⟨z,e1,_,w1⟩:=DataW.trod_int Tryz.underlying3 h1
  obtain⟨A,n,c,l,e2,r2,f2,t2⟩:=Zec h2
  obtain⟨A1,n1,c1,l1,e3,r3,f3⟩:=Bo.Zds h3
  obtain⟨A2,n2,c2,l2,e4,r4,f4⟩:=Bo.Zds h4
  obtain⟨u0,u1,u2,u3,u4,e⟩:=ZjG hl
  rw[e] at e0 e1 e2 e3 e4
  simp at e0 e1 e2 e3 e4
  subst e0 e1 e2 e3 e4
  exact⟨⟨k,z,l,l1,l2⟩,A,n,c,A1,n1,c1,A2,n2,c2,Bo.Ziu e,⟨r2,f2,t2,r3,f3,r4,f4⟩,w0,w1⟩
theorem ZbM {v:Value}{d:DataW H}{p:List MemPlace}(h:DataW.Trod enc Tryz.prog W 0 (fun _=>true) true 24 v d p):
  ∃(a0:Option Addr) (len0 cap0:Nat) (k:Int) (l:List Nat),v=zV a0 len0 cap0 k∧Rd La.nm W W.heap.size a0 len0 cap0 l∧La.Fit l:=by
 obtain⟨fuel,h⟩:=h
 obtain⟨xs,m,_,_,hl,hlen,hf⟩:=DataW.trod_struct Tryz.underlying24 h
 rw[c31s] at hl
 match xs,hlen with
 | [y0,y1],_=>
  have h0:DataW.trod enc Tryz.prog W 0 (fun _=>true) true m 22 (List.take (Tryz.prog.cellsOf 22) (List.drop 0 v.cells.toList))=some y0:=hf 0 _ rfl
  have h1:DataW.trod enc Tryz.prog W 0 (fun _=>true) true m 3 (List.take (Tryz.prog.cellsOf 3) (List.drop 1 v.cells.toList))=some y1:=hf 1 _ rfl
  rw[Zln] at h0
  rw[cInt] at h1
  obtain⟨a0,len0,cap0,l,e0,hr,hfit⟩:=Bo.Zgj h0
  obtain⟨k,e1,_,_⟩:=DataW.trod_int Tryz.underlying3 h1
  obtain⟨u0,u1,e⟩:=Zdj hl
  rw[e] at e0 e1
  simp at e0 e1
  subst e0 e1
  exact⟨a0,len0,cap0,k,l,Bo.Ziu e,hr,hfit⟩
end
def laOf (rows:List Nat):Bo.Sr:=if La.checkN rows=0 then Bo.laS rows else Bo.dead
def efOf (k:Int):Bo.Sr:=if 0≤k∧k≤64 then Bo.efS true (Ef.topN k.toNat) else Bo.dead
theorem ZaC (rows:List Nat):(laOf rows).Ok:=by
 unfold laOf
 split
 ·rename_i h
  exact Bo.ZlA (La.VM h)
 ·exact Bo.ZgE
theorem Zcz (k:Int):(efOf k).Ok:=by
 unfold efOf
 split
 ·exact Bo.ZlB true (Ef.KR (by omega))
 ·exact Bo.ZgE
theorem ZjH (A:Option Addr)(n c:Nat)(rows:List Nat)(w:World)(h:Rd La.nm w w.heap.size A n c rows)(hf:La.Fit rows):
  Calls Tryz.prog 19 #[.slice A n c] w fun e w'=> ∃a x,e= .returned (.tuple #[.pointer a,.int .i64 x])∧Bo.Ans w' 269 267 270 271 268 272 (.pointer a) (laOf rows)∧Below w.heap.size w w':=by
 by_cases hx:La.checkN rows=0
 ·refine(La.Zcc A n c rows w h hf hx).mono ?_
  rintro e w' ⟨g,rfl,-,hl,hb⟩
  refine⟨_,0,rfl,?_,hb⟩
  unfold laOf
  rw[if_pos hx]
  rw[← h.len] at hl
  exact Bo.ZkS hl
 ·refine(La.ZeH A n c rows w h hf _ rfl hx).mono ?_
  rintro e w' ⟨rfl,hb⟩
  refine⟨none,_,rfl,?_,hb⟩
  unfold laOf
  rw[if_neg hx]
  exact Bo.Zek _
theorem ZjI:Bo.efS false 0=Bo.dead:=by
 unfold Bo.efS Bo.dead
 congr
theorem ZjJ (k:Int)(w:World):Calls Tryz.prog 20 #[.int .i64 k] w fun e w'=> ∃a x,e= .returned (.tuple #[.pointer a,.int .i64 x])∧Bo.Ans w' 280 278 281 282 279 283 (.pointer a) (efOf k)∧Below w.heap.size w w':=by
 by_cases hk:0≤k∧k≤64
 ·obtain⟨y,rfl⟩: ∃y:Nat,k=(y:Int):=⟨k.toNat,by omega⟩
  refine(Ef.Zcc y (by omega) w).mono ?_
  rintro e w' ⟨g,rfl,he,hb⟩
  refine⟨_,0,rfl,?_,hb⟩
  unfold efOf
  rw[if_pos hk,Int.toNat_natCast]
  exact Bo.Ziz (.inr ⟨g,rfl,he⟩)
 ·refine(Ef.ZeH k hk w).mono ?_
  rintro e w' ⟨rfl,rfl⟩
  refine⟨none,_,rfl,?_,Below.refl _ _⟩
  unfold efOf
  rw[if_neg hk, ← ZjI]
  exact Bo.Ziz (.inl ⟨rfl,rfl,rfl⟩)
theorem Zdl (A:Option Addr)(n c:Nat)(k:Int)(rows:List Nat)(w:World)(h:Rd La.nm w w.heap.size A n c rows)(hf:La.Fit rows):
  Calls Tryz.prog 6 #[zV A n c k] w fun e w'=> ∃a b,e= .returned (.tuple #[.iface 80 (.pointer a),.iface 83 (.pointer b)])∧Both w' a b (laOf rows) (efOf k)∧Below w.heap.size w w':=by
 have hal:Below w.heap.size w (w.alloc (.cells #[.slice A n c,.int .i64 k] 24)):=bA
 have h1:=h.at_size lR hal
 have hc0:(w.alloc (.cells #[.slice A n c,.int .i64 k] 24)).cell? ⟨w.heap.size,1,none⟩=some (.int .i64 k):=(Za (i:=1) (heap_alloc_new w _)).trans rfl
 unfold zV
 clear h
 go_enter Tryz.func6,Tryz.ntmps6
 go_wp2_with fail
 refine(ZjH A n c rows _ h1 hf).mono ?_
 rintro e w1 ⟨a,x,rfl,hl,hb⟩
 have hc1:=Zc hc0 hb
 have HL:=Hd hl
 clear hl hc0 h1
 go_wp2_with fail
 refine(ZjJ k _).mono ?_
 rintro e w2 ⟨b,y,rfl,hx,hb2⟩
 have HX:=Hd hx
 clear hx hc1
 go_wp2_with fail
 exact bodyPost_ret (v:= .tuple #[.iface 80 (.pointer a),.iface 83 (.pointer b)]) (by simp[results,Tryz.results6,go_sem]) rfl ⟨a,b,rfl,⟨HL.out.keep hb2,HX.out⟩,hal.trans ((hb.trans (hb2.mono hb.size)).mono hal.size)⟩
def Zdm (e:Ending)(P:Bool→Prop):Prop:= ∃r,e= .returned (.bool r)∧P r
theorem Zdm.mk {e:Ending}{P:Bool→Prop}(r:Bool)(he:e= .returned (.bool r))(h:P r):Zdm e P:=⟨r,he,h⟩
theorem ZfZ (s:Sch)(A:Option Addr)(nb cb:Nat)(A1:Option Addr)(nl cl:Nat)(A2:Option Addr)(ne ce:Nat)(w:World)(h1:nl≤9223372036854775807)(h2:ne≤9223372036854775807):
  Calls Tryz.prog 4 #[schV s A nb cb A1 nl cl A2 ne ce] w fun e w'=>Zdm e (fun r=>r=false→nb≤60∧(nl+ne≤9223372036854775807→nl+ne≤80))∧Below w.heap.size w w':=by
 obtain⟨lv,ev,bo,sl,se⟩:=s
 unfold schV
 have hz:=Box.new w lv ev A nb cb A1 nl cl A2 ne ce
 have hb:Below w.heap.size w (w.alloc (.cells #[.int .i64 lv,.int .i64 ev,.slice A nb cb,.slice A1 nl cl,.slice A2 ne ce] 28)):=bA
 have hz0:=hz.z0
 have hz1:=hz.z1
 have hz2:=hz.z2
 have hz3:=hz.z3
 have hz4:=hz.z4
 clear hz
 obtain⟨d,hd⟩: ∃d:Bool,(decide (60 < nb)||(decide ((80:Int) < wrap64 ((nl:Int)+(ne:Int)))||(decide (40 < lv)||decide (40 < ev))))=d:=⟨_,rfl⟩
 have HF:Hid (d=false→nb≤60∧(nl+ne≤9223372036854775807→nl+ne≤80)):=Hd fun e=>by
  rw[e,Bool.or_eq_false_iff,Bool.or_eq_false_iff,decide_eq_false_iff_not,decide_eq_false_iff_not] at hd
  refine⟨by omega,fun hs=> ?_⟩
  have:=hd.2.1
  unfold wrap64 at this
  omega
 by_cases g0:(60:Int) < (nb:Int)
 ·clear hd HF
  go_enter Tryz.func4,Tryz.ntmps4
  go_wp2
  go_ret
  exact⟨.mk true rfl (fun e=>by cases e),hb⟩
 by_cases hs:(nl:Int)+(ne:Int)≤9223372036854775807
 ·have hw:wrap64 ((nl:Int)+(ne:Int))=(nl:Int)+(ne:Int):=by unfold wrap64;omega
  rw[hw] at hd
  clear hw
  by_cases g1:(80:Int) < (nl:Int)+(ne:Int)
  ·clear hd HF
   go_enter Tryz.func4,Tryz.ntmps4
   go_wp2
   go_ret
   exact⟨.mk true rfl (fun e=>by cases e),hb⟩
  by_cases g2:40 < lv
  ·clear hd HF
   go_enter Tryz.func4,Tryz.ntmps4
   go_wp2
   go_ret
   exact⟨.mk true rfl (fun e=>by cases e),hb⟩
  by_cases g3:40 < ev
  ·clear hd HF
   go_enter Tryz.func4,Tryz.ntmps4
   go_wp2
   go_ret
   exact⟨.mk true rfl (fun e=>by cases e),hb⟩
  have hdf:false=d:=by rw[← hd];simp[g1,g2,g3];omega
  subst hdf
  have HF2:=Hd (HF.out rfl)
  clear hd HF
  go_enter Tryz.func4,Tryz.ntmps4
  go_wp2
  go_ret
  exact⟨.mk false rfl (fun _=>HF2.out),hb⟩
 ·obtain⟨q,hq⟩: ∃q,wrap64 ((nl:Int)+(ne:Int))=q:=⟨_,rfl⟩
  have hneg: ¬(80:Int) < q:=by
   rw[← hq]
   unfold wrap64
   omega
  rw[hq] at hd
  have HQ:=Hd hq
  clear hq
  by_cases g2:40 < lv
  ·clear hd HF
   go_enter Tryz.func4,Tryz.ntmps4
   go_wp2_with (rw[HQ.out])
   go_ret
   exact⟨.mk true rfl (fun e=>by cases e),hb⟩
  by_cases g3:40 < ev
  ·clear hd HF
   go_enter Tryz.func4,Tryz.ntmps4
   go_wp2_with (rw[HQ.out])
   go_ret
   exact⟨.mk true rfl (fun e=>by cases e),hb⟩
  have hdf:false=d:=by rw[← hd];simp[hneg,g2,g3];omega
  subst hdf
  have HF2:=Hd (HF.out rfl)
  clear hd HF
  go_enter Tryz.func4,Tryz.ntmps4
  go_wp2_with (rw[HQ.out])
  go_ret
  exact⟨.mk false rfl (fun _=>HF2.out),hb⟩
end Go.Proofs.YtfmpecnkkbpdlaaGreatDoor
namespace Go.Proofs.YtfmpecnkkbpdlaaGreatDoor
open Go.RowKit
def nI (v:Bool)(x:Nat):Nd:=⟨1,0,[105,110,116],0,v,(x:Int),false,0,false,0⟩
theorem Zgb (v:Bool)(x:Nat):(nI v x).Fits:=⟨fits_int.k0,fits_int.k1,fits_int.m0,fits_int.m1,fits_int.n0,fits_int.n1,fits_int.s1⟩
theorem ZcC {v:Bool}{x:Nat}(h:x < 18446744073709551616):(nI v x).TFits:=⟨⟨by simp[nI],by simp[nI];omega⟩,⟨by simp[nI],by simp[nI]⟩,⟨by simp[nI],by simp[nI]⟩⟩
theorem ZjN:nFun.TFits:=⟨⟨by simp[nFun],by simp[nFun]⟩,⟨by simp[nFun],by simp[nFun]⟩,⟨by simp[nFun],by simp[nFun]⟩⟩
def sE1:Sch:=⟨1,0,[nI true 0],[],[]⟩
def sE2:Sch:=⟨1,0,[nFun,nI true 0,nI true 0],[],[]⟩
abbrev lS:Bo.Sr:=laOf [3,2]
abbrev xS:Bo.Sr:=efOf 1
def z1:Sen:=senS lS [0] [1] (rcB 1 []) (labB sE1.b)
def z2:Sen:=senS lS [0] [1] (rcB 1 []) (labB sE2.b)
theorem Zlo:sE1.check lS xS=0:=by decide+kernel
theorem Zlp:sE2.check lS xS=0:=by decide+kernel
theorem Zis:lS.bot=0:=by decide+kernel
theorem ZkK:lS.top=1:=by decide+kernel
theorem Zgc:lS.has 0=true:=by decide+kernel
theorem ZhI:z1.lo= [0]:=by decide+kernel
theorem ZhJ:z1.hi= [1]:=by decide+kernel
theorem Zlq:z1.be= [[false]]:=by decide+kernel
theorem z2_p:z2.p.length=4:=by decide+kernel
theorem Zlr:z2.be= [[false,false,false,false],[true,false,false,true],[false,false,false,true],[false,false,false,false]]:=by decide+kernel
theorem ZjO:ZkQ lS z2 z2=true:=by decide+kernel
theorem Zgd {S:Bo.Sr}(hS:S.Ok){v:List Nat}(h:Bo.Y7 S 1 [] v)(hb:S.has S.bot=true):v= [S.bot]:=
 Bo.Zar hS h ⟨Bo.Under.start hS fun _=>hb,fun b hb=>by cases hb⟩
theorem ZkL {s:Sch}{w:World}{x:Int}{p q:Q4}(h:OfIs lS xS s w x p q)(hc:s.check lS xS=0)(h1:s.lv=1)(h2:s.ev=0)(hl:s.l= [])(he:s.e= []):x=0∧YD w (senS lS [0] [1] (rcB 1 []) (labB s.b)) p:=by
 rcases h with⟨hx,-,-,h|⟨-,-,h⟩⟩|⟨hx,ql,qe,lo,hi,lo',hi',hok,hp,-⟩
 ·exact absurd (h.symm.trans hc) hx
 ·exfalso
  rcases h with⟨k,e,hn⟩|⟨k,e,hn⟩
  ·have hk:k=1:=by omega
   subst hk
   have:=hn [0] ⟨rfl,fun i hi=>by
    obtain rfl:i=0:=by omega
    exact Zgc⟩
   rw[hl] at this
   cases this
  ·have hk:k=0:=by omega
   subst hk
   have:=hn [] ⟨rfl,fun i hi=>absurd hi (Nat.not_lt_zero i)⟩
   rw[he] at this
   cases this
 ·obtain rfl:ql=1:=by have:=hok.lv;omega
  have hS:=ZaC [3,2]
  have g1:=hok.gl.low
  have g2:=hok.gl.high
  rw[hl] at g1 g2
  have hbb:lS.has lS.bot=true:=by rw[Zis];exact Zgc
  have e1:=Zgd hS g1 hbb
  have e2:=Zgd hS.turn g2 (hS.sub _ _ (hS.topl _ Zgc)).2
  rw[Zis] at e1
  replace e2:hi= [lS.top]:=e2
  rw[ZkK] at e2
  rw[e1,e2,hl] at hp
  exact⟨hx,hp⟩
theorem Zge (w:World):Calls Tryz.prog 16 #[] w fun e w'=> ∃g,e= .returned (zV (some ⟨g,0,none⟩) 2 2 1)∧Rd La.nm w' w'.heap.size (some ⟨g,0,none⟩) 2 2 [3,2]∧Below w.heap.size w w':=by
 obtain⟨x,hx⟩: ∃x,w.alloc (.cells #[.slice none 0 0,.int .i64 0] 24)=x:=⟨_,rfl⟩
 have b0:Below w.heap.size w x:=hx▸bA
 have sx:x.heap.size=w.heap.size+1:=by rw[← hx,World.size_alloc]
 have k0:x.heap[w.heap.size]?=some (.cells #[.slice none 0 0,.int .i64 0] 24 (0,0)):=hx▸heap_alloc_new w _
 obtain⟨y,hy⟩: ∃y,x.alloc (.cells #[.int .u64 3,.int .u64 2] 72)=y:=⟨_,rfl⟩
 have b1:Below x.heap.size x y:=hy▸bA
 have k1:y.heap[w.heap.size]?=some (.cells #[.slice none 0 0,.int .i64 0] 24 (0,0)):=(b1.block _ (by rw[sx];omega)).trans k0
 have k2:y.heap[x.heap.size]?=some (.cells #[.int .u64 3,.int .u64 2] 72 (0,0)):=hy▸heap_alloc_new x _
 have p0:=(Za (i:=0) k1).trans rfl
 have p1:=(Za (i:=1) k1).trans rfl
 have f0:y.frozen? ⟨w.heap.size,0,none⟩=false:=Zb k1
 have f1:y.frozen? ⟨w.heap.size,1,none⟩=false:=Zb k1
 have HK1:=Hd k1
 have HK2:=Hd k2
 have HB:=Hd (b0.trans (b1.mono b0.size))
 have HSX:=Hd sx
 clear b0 b1 k0 k1 k2 sx
 go_enter Tryz.func16,Tryz.ntmps16
 go_wp2_with fail
 clear hx hy
 refine bodyPost_ret (v:=zV (some ⟨x.heap.size,0,none⟩) 2 2 1) ?_ rfl ⟨x.heap.size,rfl,?_,?_⟩
 ·exact results_cell_row (P:=Tryz.prog) rfl _ _ w.heap.size 24 _ (0,0) _ rfl (Zj (Zj HK1.out _) _) Tryz.underlying24 rfl rfl
 ·have hne:x.heap.size≠w.heap.size:=by have:=HSX.out;omega
  have k2:((y.setCell ⟨w.heap.size,0,none⟩ (.slice (some ⟨x.heap.size,0,none⟩) 2 2)).setCell ⟨w.heap.size,1,none⟩ (.int .i64 1)).heap[x.heap.size]?=some (.cells #[.int .u64 3,.int .u64 2] 72 (0,0)):=(Below.heap_setCell _ _ _ _ hne).trans ((Below.heap_setCell _ _ _ _ hne).trans HK2.out)
  exact La.ZbC (l:= [3,2]) k2 rfl (by decide)
 ·exact ZL (ZL HB.out lR _) lR _
theorem ZaH (n:Nat)(w:World):Calls Tryz.prog 17 #[.int .u64 (n:Int)] w fun e w'=>e= .returned (.agg #[.bool true,.int .u64 (n:Int)])∧Below w.heap.size w w':=by
 have k0:=heap_alloc_new w (.cells #[.bool true,.int .u64 (n:Int)] 74)
 have hb:Below w.heap.size w (w.alloc (.cells #[.bool true,.int .u64 (n:Int)] 74)):=bA
 go_enter Tryz.func17,Tryz.ntmps17
 go_wp2_with fail
 refine bodyPost_ret (v:= .agg #[.bool true,.int .u64 (n:Int)]) ?_ rfl ⟨rfl,hb⟩
 exact results_cell_row (P:=Tryz.prog) rfl _ _ w.heap.size 74 _ (0,0) _ rfl k0 Tryz.underlying74 rfl rfl
theorem B8.new (w:World)(A1:Option Addr)(n1 c1:Nat)(A2:Option Addr)(n2 c2:Nat)(A3:Option Addr)(n3 c3:Nat)(A4:Option Addr)(n4 c4:Nat)(B1:Option Addr)(m1 d1:Nat)(B2:Option Addr)(m2 d2:Nat)(B3:Option Addr)(m3 d3:Nat)(B4:Option Addr)(m4 d4:Nat):
  B8 ((w.alloc (.cells #[.slice A1 n1 c1,.slice A2 n2 c2,.slice A3 n3 c3,.slice A4 n4 c4] 43)).alloc (.cells #[.slice B1 m1 d1,.slice B2 m2 d2,.slice B3 m3 d3,.slice B4 m4 d4] 43)) w.heap.size A1 n1 c1 A2 n2 c2 A3 n3 c3 A4 n4 c4 B1 m1 d1 B2 m2 d2 B3 m3 d3 B4 m4 d4:=by
 obtain⟨x,hx⟩: ∃x,w.alloc (.cells #[.slice A1 n1 c1,.slice A2 n2 c2,.slice A3 n3 c3,.slice A4 n4 c4] 43)=x:=⟨_,rfl⟩
 have sx:x.heap.size=w.heap.size+1:=by rw[← hx,World.size_alloc]
 have b1:Below x.heap.size x (x.alloc (.cells #[.slice B1 m1 d1,.slice B2 m2 d2,.slice B3 m3 d3,.slice B4 m4 d4] 43)):=bA
 have k0:=(b1.block w.heap.size (by rw[sx];omega)).trans (hx▸heap_alloc_new w (.cells #[.slice A1 n1 c1,.slice A2 n2 c2,.slice A3 n3 c3,.slice A4 n4 c4] 43))
 have k1:=heap_alloc_new x (.cells #[.slice B1 m1 d1,.slice B2 m2 d2,.slice B3 m3 d3,.slice B4 m4 d4] 43)
 rw[sx] at k1
 rw[hx]
 exact⟨(Za (i:=0) k0).trans rfl,(Za (i:=1) k0).trans rfl,(Za (i:=2) k0).trans rfl,(Za (i:=3) k0).trans rfl,(Za (i:=0) k1).trans rfl,(Za (i:=1) k1).trans rfl,(Za (i:=2) k1).trans rfl,(Za (i:=3) k1).trans rfl⟩
theorem UF (w:World)(o o':Obj):Below w.heap.size w ((w.alloc o).alloc o'):=(bA).alloc (by simp) _
theorem ZjP: ∀x∈sE1.b,x.Fits:=Yk (Zgb _ _) ZcW
theorem ZjQ: ∀x∈sE2.b,x.Fits:=Yk Zhs (Yk (Zgb _ _) (Yk (Zgb _ _) ZcW))
theorem ZhK: ∀x∈sE1.b,x.TFits:=fun x hx=>by
 simp only[sE1,List.mem_cons,List.not_mem_nil,or_false] at hx
 subst hx
 exact ZcC (by decide)
theorem ZhL: ∀x∈sE2.b,x.TFits:=fun x hx=>by
 simp only[sE2,List.mem_cons,List.not_mem_nil,or_false] at hx
 rcases hx with rfl|rfl|rfl
 ·exact ZjN
 ·exact ZcC (by decide)
 ·exact ZcC (by decide)
abbrev oE1:Obj:= .cells #[.int .u8 1,.int .i64 0,.string (str [105,110,116]),.int .i64 0,.bool true,.int .u64 0,.bool false,.int .u64 0,.bool false,.int .u64 0] 77
abbrev oE2:Obj:= .cells #[.int .u8 5,.int .i64 0,.string (str []),.int .i64 2,.bool false,.int .u64 0,.bool false,.int .u64 0,.bool false,.int .u64 0,.int .u8 1,.int .i64 0,.string (str [105,110,116]),.int .i64 0,.bool true,.int .u64 0,.bool false,.int .u64 0,.bool false,.int .u64 0,.int .u8 1,.int .i64 0,.string (str [105,110,116]),.int .i64 0,.bool true,.int .u64 0,.bool false,.int .u64 0,.bool false,.int .u64 0] 77
theorem Zls (w:World):Uo (w.alloc oE1) sE1 (some ⟨w.heap.size,0,none⟩) 1 1 none 0 0 none 0 0:=
 ⟨Rs.of_own U4 (by decide) (Rk (l:= [nI true 0]) (n:=1) (heap_alloc_new w oE1) (Nat.zero_le _) rfl rfl (by unfold maxLen;omega)),ZjP,ZhK,Rs.nil _ _,(fun _ h=>by cases h),Rs.nil _ _,fun _ h=>by cases h⟩
theorem Zlt (w:World):Uo (w.alloc oE2) sE2 (some ⟨w.heap.size,0,none⟩) 3 3 none 0 0 none 0 0:=
 ⟨Rs.of_own U4 (by decide) (Rk (l:= [nFun,nI true 0,nI true 0]) (n:=3) (heap_alloc_new w oE2) (Nat.zero_le _) rfl rfl (by unfold maxLen;omega)),ZjQ,ZhL,Rs.nil _ _,(fun _ h=>by cases h),Rs.nil _ _,fun _ h=>by cases h⟩
theorem QH (w:World):Calls Tryz.prog 5 #[] w fun e w'=>e= .returned (.bool true)∧Below w.heap.size w w':=by
 go_enter Tryz.func5,Tryz.ntmps5
 go_wp2_with fail
 refine(Zge w).mono ?_
 rintro e w1 ⟨g0,rfl,hr,hb1⟩
 have HB1:=Hd hb1
 have hcall:=Zdl (some ⟨g0,0,none⟩) 2 2 1 [3,2] w1 hr (by intro x hx;simp only[List.mem_cons,List.not_mem_nil,or_false] at hx;omega)
 clear hr hb1
 have HC:=Hd hcall
 clear hcall
 go_wp2_with fail
 refine HC.out.mono ?_
 rintro e w2 ⟨a,b,rfl,hbo,hv⟩
 have HB2:=Hd (HB1.out.trans (hv.mono HB1.out.size))
 have HBO:=Hd hbo
 clear hbo hv HC HB1
 go_wp2_with fail
 refine(ZaH 0 w2).mono ?_
 rintro e w3 ⟨rfl,hv⟩
 have HB3:=Hd (HB2.out.trans (hv.mono HB2.out.size))
 have hal:Below w3.heap.size w3 (w3.alloc oE1):=bA
 have HBO3:=Hd ((HBO.out.keep hv).keep hal)
 have HBA:=Hd (HB3.out.trans (hal.mono HB3.out.size))
 have HC:=Hd (Qd sE1 _ _ _ _ _ _ _ _ _ a b lS xS _ (Zls w3) HBO3.out (ZaC _) (Zcz _))
 clear hv hal HBO HB2 HB3
 unfold schV at HC
 go_wp2_with fail
 refine HC.out.mono ?_
 rintro e w4 ⟨x1,p1,q1,rfl,hof,hv,-⟩
 obtain⟨hx1,hp1⟩:=ZkL hof Zlo rfl rfl rfl rfl
 obtain⟨A1,n1,c1,A2,n2,c2,A3,n3,c3,A4,n4,c4⟩:=p1
 obtain⟨B1,m1,d1,B2,m2,d2,B3,m3,d3,B4,m4,d4⟩:=q1
 replace hp1:Yg w4 z1 A1 n1 c1 A2 n2 c2 A3 n3 c3 A4 n4 c4:=hp1
 simp only[Q4.v,senV]
 have HB4:=Hd (HBA.out.trans (hv.mono HBA.out.size))
 have HBO4:=Hd (HBO3.out.keep hv)
 have HP1:=Hd hp1
 clear hof hp1 hv HC HBO3 HBA
 subst hx1
 go_wp2_with fail
 have h8:=B8.new w4 A1 n1 c1 A2 n2 c2 A3 n3 c3 A4 n4 c4 B1 m1 d1 B2 m2 d2 B3 m3 d3 B4 m4 d4
 have hal:=UF w4 (.cells #[.slice A1 n1 c1,.slice A2 n2 c2,.slice A3 n3 c3,.slice A4 n4 c4] 43) (.cells #[.slice B1 m1 d1,.slice B2 m2 d2,.slice B3 m3 d3,.slice B4 m4 d4] 43)
 generalize (w4.alloc (.cells #[.slice A1 n1 c1,.slice A2 n2 c2,.slice A3 n3 c3,.slice A4 n4 c4] 43)).alloc (.cells #[.slice B1 m1 d1,.slice B2 m2 d2,.slice B3 m3 d3,.slice B4 m4 d4] 43)=wa at*
 have HBA:=Hd (HB4.out.trans (hal.mono HB4.out.size))
 have HBOA:=Hd (HBO4.out.keep hal)
 have HPA:=Hd (HP1.out.keep hal)
 have H8:=Hd h8
 clear h8 hal HB4 HBO4 HP1
 generalize w4.heap.size=g3 at*
 refine(ZaH 0 wa).mono ?_
 rintro e w5 ⟨rfl,hv⟩
 have HV5:=Hd hv
 clear hv
 go_wp2_with fail
 refine(ZaH 0 w5).mono ?_
 rintro e w6 ⟨rfl,hv⟩
 have HV6:=Hd (HV5.out.trans (hv.mono HV5.out.size))
 clear hv HV5
 have hs2:=Zlt w6
 have hal:Below w6.heap.size w6 (w6.alloc oE2):=bA
 have hal2:Below (w6.alloc oE2).heap.size (w6.alloc oE2) ((w6.alloc oE2).alloc (.cells #[.int .i64 1,.int .i64 0,.slice (some ⟨w6.heap.size,0,none⟩) 3 3,.slice none 0 0,.slice none 0 0] 28)):=bA
 have hbox:=Box.new (w6.alloc oE2) 1 0 (some ⟨w6.heap.size,0,none⟩) 3 3 none 0 0 none 0 0
 replace hs2:=hs2.keep hal2
 have hv7:=HV6.out.trans ((hal.trans (hal2.mono hal.size)).mono HV6.out.size)
 have HV7:=Hd hv7
 have hcall:=Qd sE2 _ _ _ _ _ _ _ _ _ a b lS xS _ hs2 (HBOA.out.keep hv7) (ZaC _) (Zcz _)
 rw[World.size_alloc] at hbox
 have z0:=hbox.z0
 have z1':=hbox.z1
 have z2':=hbox.z2
 have z3:=hbox.z3
 have z4:=hbox.z4
 clear hs2 hal hal2 hv7 hbox HV6
 have HC:=Hd hcall
 clear hcall
 unfold schV at HC
 go_wp2_with fail
 refine HC.out.mono ?_
 rintro e w8 ⟨x2,p2,q2,rfl,hof,hv,-⟩
 obtain⟨hx2,hp2⟩:=ZkL hof Zlp rfl rfl rfl rfl
 obtain⟨C1,k1,f1,C2,k2,f2,C3,k3,f3,C4,k4,f4⟩:=p2
 obtain⟨D1,l1,i1,D2,l2,i2,D3,l3,i3,D4,l4,i4⟩:=q2
 replace hp2:Yg w8 z2 C1 k1 f1 C2 k2 f2 C3 k3 f3 C4 k4 f4:=hp2
 simp only[Q4.v,senV]
 have HV8:=Hd (HV7.out.trans (hv.mono HV7.out.size))
 have HP2:=Hd hp2
 clear hof hp2 hv HC HV7 z0 z1' z2' z3 z4
 subst hx2
 have h8b:=B8.new w8 C1 k1 f1 C2 k2 f2 C3 k3 f3 C4 k4 f4 D1 l1 i1 D2 l2 i2 D3 l3 i3 D4 l4 i4
 have hal:=UF w8 (.cells #[.slice C1 k1 f1,.slice C2 k2 f2,.slice C3 k3 f3,.slice C4 k4 f4] 43) (.cells #[.slice D1 l1 i1,.slice D2 l2 i2,.slice D3 l3 i3,.slice D4 l4 i4] 43)
 have hvf:=HV8.out.trans (hal.mono HV8.out.size)
 have h8:=H8.out.keep hvf
 have hpa:=HPA.out.keep hvf
 have hpb:=HP2.out.keep hal
 have HBF:=Hd (HBA.out.trans (hvf.mono HBA.out.size))
 have hbof:=HBOA.out.keep hvf
 have e1:n2=1:=by rw[← hpa.rl.len,ZhI];rfl
 have e2:n3=1:=by rw[← hpa.rh.len,ZhJ];rfl
 have e3:k1=4:=by rw[← hpb.rp.len,z2_p]
 subst e1 e2 e3
 obtain⟨b1,o1,rfl,-,hlo⟩:=hpa.rl.spot (by decide)
 have hlo0:=hlo 0 (by rw[ZhI];decide)
 rw[show z1.lo[0]'(by rw[ZhI];decide)=0 by simp[ZhI]] at hlo0
 obtain⟨b2,o2,rfl,-,hhi⟩:=hpa.rh.spot (by decide)
 have hhi0:=hhi 0 (by rw[ZhJ];decide)
 rw[show z1.hi[0]'(by rw[ZhJ];decide)=1 by simp[ZhJ]] at hhi0
 have hrb:=hpa.rb
 rw[Zlq] at hrb
 obtain⟨b3,o3,b4,o4,y1,rfl,-,hr1,-,hr2⟩:=hrb.at' (i:=0) (by decide) (j:=0) (by decide)
 have hsb:=hpb.rb
 rw[Zlr] at hsb
 obtain⟨b5,o5,b6,o6,y2,hC4,-,hr3,-,hr4⟩:=hsb.at' (i:=2) (by decide) (j:=3) (by decide)
 obtain⟨b7,o7,b8,o8,y3,hC5,-,hr5,-,hr6⟩:=hsb.at' (i:=3) (by decide) (j:=2) (by decide)
 have hn4:=hrb.len
 have hk4:=hsb.len
 have en4:n4=1:=hn4.symm
 have ek4:k4=4:=hk4.symm
 subst en4 ek4 hC4
 injection hC5 with hC5
 injection hC5 with hC6 hC7
 subst hC6 hC7
 have t1:=h8.p1
 have t2:=h8.p2
 have t3:=h8.p3
 have t4:=h8b.p0
 have t5:=h8b.p1
 have t6:=h8b.p2
 have t7:=h8b.p3
 have hless:=ZhS (.iface 80 (.pointer a)) lS ⟨C1,4,f1,C2,k2,f2,C3,k3,f3,some ⟨b5,o5,none⟩,4,f4⟩ ⟨C1,4,f1,C2,k2,f2,C3,k3,f3,some ⟨b5,o5,none⟩,4,f4⟩ z2 z2 _ hbof.sl.into hpb hpb (show(4:Nat)≤100000 by decide) true ZjO
 simp only[Q4.v,senV] at hless
 have HL:=Hd hless
 replace hlo0:_=some (Value.int .u64 0):=hlo0
 replace hhi0:_=some (Value.int .u64 1):=hhi0
 replace hr2:_=some (Value.bool false):=hr2
 replace hr4:_=some (Value.bool true):=hr4
 replace hr6:_=some (Value.bool false):=hr6
 replace hr1:_=some (Value.slice (some ⟨b4,o4,none⟩) 1 y1):=hr1
 replace hr3:_=some (Value.slice (some ⟨b6,o6,none⟩) 4 y2):=hr3
 replace hr5:_=some (Value.slice (some ⟨b8,o8,none⟩) 4 y3):=hr5
 simp only[Nat.add_zero] at hlo0 hhi0 hr1 hr2
 clear hless h8 h8b hal hvf hpa hpb hbof hlo hhi hrb hsb hn4 hk4 H8 HPA HP2 HV8 HBOA HBA
 go_wp2_with fail
 refine HL.out.mono ?_
 rintro e w9 ⟨rfl,hv⟩
 have HF:=Hd (HBF.out.trans (hv.mono HBF.out.size))
 clear hv HL
 go_wp2_with fail
 go_ret
 exact⟨rfl,HF.out⟩
end Go.Proofs.YtfmpecnkkbpdlaaGreatDoor
