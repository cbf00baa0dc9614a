/- What comes in: bounds and rows of numbers. Condition: they can be read. -/
/- What comes in by value: schemes, sorts, values; what great tells, and what of makes. Condition: it can be read. -/
import Derived.ProofKit
import Derived.OpenShut
import Derived.ShutString
import Derived.ChangeOld
import Derived.Deep.Slices
import Derived.Test.YtmejhedegmjboaaGreatBoEnds
import Derived.Test.YtmejhedegmjboaaGreatGrd
import Derived.Test.YtmejhedegmjboaaGreatOfs
namespace Go.Proofs.YtmejhedegmjboaaGreat.Bo
open Go.ChangeShapes Go.WideShapes Go.ChangeAt Go.RowKit Go.Deep
theorem c4:Tryz.prog.cellsOf 4=1:=by kernel_rfl
theorem c28:Tryz.prog.cellsOf 60=1:=by kernel_rfl
theorem c51:Tryz.prog.cellsOf 62=2:=by kernel_rfl
theorem c53:Tryz.prog.cellsOf 69=4:=by kernel_rfl
theorem two_of {α:Type}: ∀{l:List α},l.length=2→ ∃a b,l= [a,b]
 | [a,b],_=>⟨a,b,rfl⟩
theorem four_of {α:Type}: ∀{l:List α},l.length=4→ ∃a b c d,l= [a,b,c,d]
 | [a,b,c,d],_=>⟨a,b,c,d,rfl⟩
theorem agg_of {v:Value}{x y:Value}{l:List Value}(h:v.cells.toList=x::y::l):v= .agg (x::y::l).toArray:=by
 cases v <;> simp[Value.cells] at h
 rename_i xs
 congr 1
 apply Array.toList_inj.1
 simpa using h
section
variable {H:Type} {enc:TypeId×Value→H} {W:World}
theorem open_term {n:Nat}{cs:List Value}{x:DataW H×List MemPlace}(h:DataW.trod enc Tryz.prog W 0 (fun _=>true) true n 62 cs=some x): ∃(b:Bool) (z:Nat),cs= [.bool b,.int .u64 (z:Int)]∧z < 18446744073709551616:=by
 obtain⟨xs,m,_,_,hl,hlen,hf⟩:=DataW.trod_struct Tryz.underlying62 h
 rw[c51] at hl
 match xs,hlen with
 | [y0,y1],_=>
  have h0:DataW.trod enc Tryz.prog W 0 (fun _=>true) true m 4 (List.take (Tryz.prog.cellsOf 4) (List.drop 0 cs))=some y0:=hf 0 _ rfl
  have h1:DataW.trod enc Tryz.prog W 0 (fun _=>true) true m 60 (List.take (Tryz.prog.cellsOf 60) (List.drop 1 cs))=some y1:=hf 1 _ rfl
  rw[c4] at h0
  rw[c28] at h1
  obtain⟨b,e0,_⟩:=DataW.trod_bool Tryz.underlying4 h0
  obtain⟨z,e1,_,wz⟩:=DataW.trod_int Tryz.underlying60 h1
  obtain⟨y,rfl,hy⟩:=La.u64_nat wz
  obtain⟨u0,u1,rfl⟩:=two_of hl
  simp at e0 e1
  exact⟨b,y,by rw[e0,e1],hy⟩
theorem open_bd {n:Nat}{cs:List Value}{x:DataW H×List MemPlace}(h:DataW.trod enc Tryz.prog W 0 (fun _=>true) true n 69 cs=some x): ∃y:Bd,cs=bdc y∧y.Fit:=by
 obtain⟨xs,m,_,_,hl,hlen,hf⟩:=DataW.trod_struct Tryz.underlying69 h
 rw[c53] at hl
 match xs,hlen with
 | [y0,y1],_=>
  have h0:DataW.trod enc Tryz.prog W 0 (fun _=>true) true m 62 (List.take (Tryz.prog.cellsOf 62) (List.drop 0 cs))=some y0:=hf 0 _ rfl
  have h1:DataW.trod enc Tryz.prog W 0 (fun _=>true) true m 62 (List.take (Tryz.prog.cellsOf 62) (List.drop 2 cs))=some y1:=hf 1 _ rfl
  rw[c51] at h0 h1
  obtain⟨av,an,e0,t0⟩:=open_term h0
  obtain⟨bv,bn,e1,t1⟩:=open_term h1
  obtain⟨u0,u1,u2,u3,rfl⟩:=four_of hl
  simp at e0 e1
  exact⟨⟨av,an,bv,bn⟩,by rw[bdc,e0.1,e0.2,e1.1,e1.2],t0,t1⟩
theorem open_bds {n:Nat}{cs:List Value}{x:DataW H×List MemPlace}(h:DataW.trod enc Tryz.prog W 0 (fun _=>true) true n 42 cs=some x):
  ∃(a0:Option Addr) (len0 cap0:Nat) (l:List Bd),cs= [.slice a0 len0 cap0]∧Rs bdc 4 W W.heap.size a0 len0 cap0 l∧ ∀b∈l,b.Fit:=by
 rcases open_slice Tryz.underlying42 h with⟨hcs,_⟩|⟨x,l,c,m,n,D,Pl,hcs,_,hl,hm,hmm,_,hx⟩
 ·exact⟨none,0,0,[],hcs,Rs.nil _ _,fun _ h=>by cases h⟩
 ·have hm':m=c:=by simpa using hmm
  have each: ∀i,i < l→ ∃y:Bd,y.Fit∧ ∀j u,(bdc y)[j]?=some u→W.cell? ((x.add (i*4)).add j)=some u:=by
   intro i hi
   obtain⟨cs',h1,h2⟩:=hx i (by omega)
   obtain⟨y,rfl,hy⟩:=open_bd h2
   rw[c53] at h1
   obtain⟨_,_,hc⟩:=World.cells?_some h1
   refine⟨y,hy,fun j u hu=> ?_⟩
   have hj:j < (bdc y).length:=(List.getElem?_eq_some_iff.1 hu).1
   have:=hc j (by rw[bdc_len] at hj;exact hj)
   rw[this]
   exact hu
  obtain⟨f,hf,hg⟩: ∃f:Nat→Bd,(∀i,i < l→(f i).Fit)∧ ∀i,i < l→ ∀j u,(bdc (f i))[j]?=some u→W.cell? ((x.add (i*4)).add j)=some u:=
   ⟨fun i=>if h:i < l then Classical.choose (each i h) else zeroB,fun i h=>by
    simp only[dif_pos h]
    exact(Classical.choose_spec (each i h)).1,fun i h=>by
    simp only[dif_pos h]
    exact(Classical.choose_spec (each i h)).2⟩
  refine⟨some x,l,c,(List.range l).map f,hcs,⟨by simp,hl,hm,(fun h=>by cases h),fun h0=> ?_⟩,fun b hb=> ?_⟩
  ·obtain⟨b,o,spot⟩:=x
   have hc0:=hg 0 (by omega) 0 _ rfl
   have hspot:spot=none:=by simpa [Addr.add] using World.cell?_spot hc0
   subst hspot
   refine⟨b,o,rfl,?_,fun j hj i u hu=> ?_⟩
   ·exact World.block_lt_of_cell? W ⟨b,o,none⟩ (by simpa [Addr.add] using hc0)
   ·rw[List.length_map,List.length_range] at hj
    simp only[List.getElem_map,List.getElem_range] at hu
    have:=hg j hj i u hu
    rwa [Addr.add_lit,Addr.add_lit] at this
  ·obtain⟨i,hi,rfl⟩:=List.mem_map.1 hb
   exact hf i (List.mem_range.1 hi)
theorem open_rows {n:Nat}{cs:List Value}{x:DataW H×List MemPlace}(h:DataW.trod enc Tryz.prog W 0 (fun _=>true) true n 22 cs=some x):
  ∃(a0:Option Addr) (len0 cap0:Nat) (l:List Nat),cs= [.slice a0 len0 cap0]∧Rd La.nm W W.heap.size a0 len0 cap0 l∧La.Fit l:=by
 obtain⟨a0,len0,cap0,e⟩: ∃a0 len0 cap0,cs= [Value.slice a0 len0 cap0]:=by
  rcases open_slice Tryz.underlying22 h with⟨hcs,_⟩|⟨x,l,c,m,n,D,Pl,hcs,_⟩
  ·exact⟨_,_,_,hcs⟩
  ·exact⟨_,_,_,hcs⟩
 subst e
 obtain⟨us,h1,h2⟩:=La.opened_nums (t:=22) (e:=60) (d:=x.1) (p:=x.2) Tryz.underlying22 Tryz.underlying60 c28 ⟨n,h⟩
 exact⟨a0,len0,cap0,us,rfl,h1,h2⟩
end
end Go.Proofs.YtmejhedegmjboaaGreat.Bo
namespace Go.Proofs.YtmejhedegmjboaaGreat
open Go.ChangeShapes Go.WideShapes Go.ChangeAt Go.RowKit Go.Deep
theorem c25:Tryz.prog.cellsOf 49=5:=by kernel_rfl
theorem c31s:Tryz.prog.cellsOf 24=2:=by kernel_rfl
theorem cNodes:Tryz.prog.cellsOf 47=1:=by kernel_rfl
theorem cBnds:Tryz.prog.cellsOf 42=1:=by kernel_rfl
theorem cNums:Tryz.prog.cellsOf 22=1:=by kernel_rfl
theorem cInt:Tryz.prog.cellsOf 3=1:=by kernel_rfl
theorem five_of {α:Type}: ∀{l:List α},l.length=5→ ∃a b c d e,l= [a,b,c,d,e]
 | [a,b,c,d,e],_=>⟨a,b,c,d,e,rfl⟩
def zV (A:Option Addr)(n c:Nat)(k:Int):Value:= .agg #[.slice A n c,.int .i64 k]
section
variable {H:Type} {enc:TypeId×Value→H} {W:World}
theorem opened_scheme {v:Value}{d:DataW H}{p:List MemPlace}(h:DataW.Trod enc Tryz.prog W 0 (fun _=>true) true 49 v d p):
  ∃(s:Sch) (A:Option Addr) (n c:Nat) (A1:Option Addr) (n1 c1:Nat) (A2:Option Addr) (n2 c2:Nat),v=schV s A n c A1 n1 c1 A2 n2 c2∧SchAt W s A n c A1 n1 c1 A2 n2 c2∧(Lit.int .i64 s.lv).wf=true∧(Lit.int .i64 s.ev).wf=true:=by
 obtain⟨fuel,h⟩:=h
 obtain⟨xs,m,_,_,hl,hlen,hf⟩:=DataW.trod_struct Tryz.underlying49 h
 rw[c25] at hl
 match xs,hlen with
 | [y0,y1,y2,y3,y4],_=>
  have h0:DataW.trod enc Tryz.prog W 0 (fun _=>true) true m 3 (List.take (Tryz.prog.cellsOf 3) (List.drop 0 v.cells.toList))=some y0:=hf 0 _ rfl
  have h1:DataW.trod enc Tryz.prog W 0 (fun _=>true) true m 3 (List.take (Tryz.prog.cellsOf 3) (List.drop 1 v.cells.toList))=some y1:=hf 1 _ rfl
  have h2:DataW.trod enc Tryz.prog W 0 (fun _=>true) true m 47 (List.take (Tryz.prog.cellsOf 47) (List.drop 2 v.cells.toList))=some y2:=hf 2 _ rfl
  have h3:DataW.trod enc Tryz.prog W 0 (fun _=>true) true m 42 (List.take (Tryz.prog.cellsOf 42) (List.drop 3 v.cells.toList))=some y3:=hf 3 _ rfl
  have h4:DataW.trod enc Tryz.prog W 0 (fun _=>true) true m 42 (List.take (Tryz.prog.cellsOf 42) (List.drop 4 v.cells.toList))=some y4:=hf 4 _ rfl
  rw[cInt] at h0 h1
  rw[cNodes] at h2
  rw[cBnds] at h3 h4
  obtain⟨k,e0,_,w0⟩:=DataW.trod_int Tryz.underlying3 h0
  obtain⟨z,e1,_,w1⟩:=DataW.trod_int Tryz.underlying3 h1
  obtain⟨A,n,c,l,e2,r2,f2,t2⟩:=open_nodes h2
  obtain⟨A1,n1,c1,l1,e3,r3,f3⟩:=Bo.open_bds h3
  obtain⟨A2,n2,c2,l2,e4,r4,f4⟩:=Bo.open_bds h4
  obtain⟨u0,u1,u2,u3,u4,e⟩:=five_of hl
  rw[e] at e0 e1 e2 e3 e4
  simp at e0 e1 e2 e3 e4
  subst e0 e1 e2 e3 e4
  exact⟨⟨k,z,l,l1,l2⟩,A,n,c,A1,n1,c1,A2,n2,c2,Bo.agg_of e,⟨r2,f2,t2,r3,f3,r4,f4⟩,w0,w1⟩
theorem opened_sorts {v:Value}{d:DataW H}{p:List MemPlace}(h:DataW.Trod enc Tryz.prog W 0 (fun _=>true) true 24 v d p):
  ∃(a0:Option Addr) (len0 cap0:Nat) (k:Int) (l:List Nat),v=zV a0 len0 cap0 k∧Rd La.nm W W.heap.size a0 len0 cap0 l∧La.Fit l:=by
 obtain⟨fuel,h⟩:=h
 obtain⟨xs,m,_,_,hl,hlen,hf⟩:=DataW.trod_struct Tryz.underlying24 h
 rw[c31s] at hl
 match xs,hlen with
 | [y0,y1],_=>
  have h0:DataW.trod enc Tryz.prog W 0 (fun _=>true) true m 22 (List.take (Tryz.prog.cellsOf 22) (List.drop 0 v.cells.toList))=some y0:=hf 0 _ rfl
  have h1:DataW.trod enc Tryz.prog W 0 (fun _=>true) true m 3 (List.take (Tryz.prog.cellsOf 3) (List.drop 1 v.cells.toList))=some y1:=hf 1 _ rfl
  rw[cNums] at h0
  rw[cInt] at h1
  obtain⟨a0,len0,cap0,l,e0,hr,hfit⟩:=Bo.open_rows h0
  obtain⟨k,e1,_,_⟩:=DataW.trod_int Tryz.underlying3 h1
  obtain⟨u0,u1,e⟩:=two_of hl
  rw[e] at e0 e1
  simp at e0 e1
  subst e0 e1
  exact⟨a0,len0,cap0,k,l,Bo.agg_of e,hr,hfit⟩
end
def laOf (rows:List Nat):Bo.Sr:=if La.checkN rows=0 then Bo.laS rows else Bo.dead
def efOf (k:Int):Bo.Sr:=if 0≤k∧k≤64 then Bo.efS true (Ef.topN k.toNat) else Bo.dead
theorem laOf_ok (rows:List Nat):(laOf rows).Ok:=by
 unfold laOf
 split
 ·rename_i h
  exact Bo.la_ok (La.latOK_of h)
 ·exact Bo.dead_ok
theorem efOf_ok (k:Int):(efOf k).Ok:=by
 unfold efOf
 split
 ·exact Bo.ef_ok true (Ef.topN_lt (by omega))
 ·exact Bo.dead_ok
theorem lat_any (A:Option Addr)(n c:Nat)(rows:List Nat)(w:World)(h:Rd La.nm w w.heap.size A n c rows)(hf:La.Fit rows):
  Calls Tryz.prog 26 #[.slice A n c] w fun e w'=> ∃a x,e= .returned (.tuple #[.pointer a,.int .i64 x])∧Bo.Ans w' 192 190 193 194 191 195 (.pointer a) (laOf rows)∧Below w.heap.size w w':=by
 by_cases hx:La.checkN rows=0
 ·refine(La.new_yes A n c rows w h hf hx).mono ?_
  rintro e w' ⟨g,rfl,-,hl,hb⟩
  refine⟨_,0,rfl,?_,hb⟩
  unfold laOf
  rw[if_pos hx]
  rw[← h.len] at hl
  exact Bo.ans_la hl
 ·refine(La.new_no A n c rows w h hf _ rfl hx).mono ?_
  rintro e w' ⟨rfl,hb⟩
  refine⟨none,_,rfl,?_,hb⟩
  unfold laOf
  rw[if_neg hx]
  exact Bo.ans_la_nil _
theorem ef_dead:Bo.efS false 0=Bo.dead:=by
 unfold Bo.efS Bo.dead
 congr
theorem eff_any (k:Int)(w:World):Calls Tryz.prog 27 #[.int .i64 k] w fun e w'=> ∃a x,e= .returned (.tuple #[.pointer a,.int .i64 x])∧Bo.Ans w' 203 201 204 205 202 206 (.pointer a) (efOf k)∧Below w.heap.size w w':=by
 by_cases hk:0≤k∧k≤64
 ·obtain⟨y,rfl⟩: ∃y:Nat,k=(y:Int):=⟨k.toNat,by omega⟩
  refine(Ef.new_yes y (by omega) w).mono ?_
  rintro e w' ⟨g,rfl,he,hb⟩
  refine⟨_,0,rfl,?_,hb⟩
  unfold efOf
  rw[if_pos hk,Int.toNat_natCast]
  exact Bo.ans_ef (.inr ⟨g,rfl,he⟩)
 ·refine(Ef.new_no k hk w).mono ?_
  rintro e w' ⟨rfl,rfl⟩
  refine⟨none,_,rfl,?_,Below.refl _ _⟩
  unfold efOf
  rw[if_neg hk, ← ef_dead]
  exact Bo.ans_ef (.inl ⟨rfl,rfl,rfl⟩)
set_option maxRecDepth 100000 in
set_option maxHeartbeats 1000000 in
theorem of_sorts (A:Option Addr)(n c:Nat)(k:Int)(rows:List Nat)(w:World)(h:Rd La.nm w w.heap.size A n c rows)(hf:La.Fit rows):
  Calls Tryz.prog 10 #[zV A n c k] w fun e w'=> ∃a b,e= .returned (.tuple #[.iface 74 (.pointer a),.iface 77 (.pointer b)])∧Both w' a b (laOf rows) (efOf k)∧Below w.heap.size w w':=by
 have hal:Below w.heap.size w (w.alloc (.cells #[.slice A n c,.int .i64 k] 24)):=(Below.refl _ _).alloc (Nat.le_refl _) _
 have h1:=h.at_size (Nat.le_refl _) hal
 have hc0:(w.alloc (.cells #[.slice A n c,.int .i64 k] 24)).cell? ⟨w.heap.size,1,none⟩=some (.int .i64 k):=(cell_blk (i:=1) (heap_alloc_new w _)).trans rfl
 unfold zV
 clear h
 go_enter Tryz.func10,Tryz.ntmps10
 go_wp2_with fail
 refine(lat_any A n c rows _ h1 hf).mono ?_
 rintro e w1 ⟨a,x,rfl,hl,hb⟩
 have hc1:=cell_old hc0 hb
 have HL:=Lib.hid hl
 clear hl hc0 h1
 go_wp2_with fail
 refine(eff_any k _).mono ?_
 rintro e w2 ⟨b,y,rfl,hx,hb2⟩
 have HX:=Lib.hid hx
 clear hx hc1
 go_wp2_with fail
 exact bodyPost_ret (v:= .tuple #[.iface 74 (.pointer a),.iface 77 (.pointer b)]) (by simp[results,Tryz.results10,go_sem]) rfl ⟨a,b,rfl,⟨HL.out.keep hb2,HX.out⟩,hal.trans ((hb.trans (hb2.mono hb.size)).mono hal.size)⟩
def TellsB (e:Ending)(P:Bool→Prop):Prop:= ∃r,e= .returned (.bool r)∧P r
theorem TellsB.mk {e:Ending}{P:Bool→Prop}(r:Bool)(he:e= .returned (.bool r))(h:P r):TellsB e P:=⟨r,he,h⟩
set_option maxRecDepth 100000 in
set_option maxHeartbeats 1000000 in
theorem great_any (s:Sch)(A:Option Addr)(nb cb:Nat)(A1:Option Addr)(nl cl:Nat)(A2:Option Addr)(ne ce:Nat)(w:World)(h1:nl≤9223372036854775807)(h2:ne≤9223372036854775807):
  Calls Tryz.prog 17 #[schV s A nb cb A1 nl cl A2 ne ce] w fun e w'=>TellsB e (fun r=>r=false→nb≤60∧(nl+ne≤9223372036854775807→nl+ne≤80))∧Below w.heap.size w w':=by
 obtain⟨lv,ev,bo,sl,se⟩:=s
 unfold schV
 have hz:=Box.new w lv ev A nb cb A1 nl cl A2 ne ce
 have hb:Below w.heap.size w (w.alloc (.cells #[.int .i64 lv,.int .i64 ev,.slice A nb cb,.slice A1 nl cl,.slice A2 ne ce] 49)):=(Below.refl _ _).alloc (Nat.le_refl _) _
 have hz0:=hz.z0
 have hz1:=hz.z1
 have hz2:=hz.z2
 have hz3:=hz.z3
 have hz4:=hz.z4
 clear hz
 obtain⟨d,hd⟩: ∃d:Bool,(decide (60 < nb)||(decide ((80:Int) < wrap64 ((nl:Int)+(ne:Int)))||(decide (40 < lv)||decide (40 < ev))))=d:=⟨_,rfl⟩
 have HF:Hid (d=false→nb≤60∧(nl+ne≤9223372036854775807→nl+ne≤80)):=Lib.hid fun e=>by
  rw[e,Bool.or_eq_false_iff,Bool.or_eq_false_iff,decide_eq_false_iff_not,decide_eq_false_iff_not] at hd
  refine⟨by omega,fun hs=> ?_⟩
  have:=hd.2.1
  unfold wrap64 at this
  omega
 by_cases g0:(60:Int) < (nb:Int)
 ·clear hd HF
  go_enter Tryz.func17,Tryz.ntmps17
  go_wp2
  go_ret
  exact⟨.mk true rfl (fun e=>by cases e),hb⟩
 by_cases hs:(nl:Int)+(ne:Int)≤9223372036854775807
 ·have hw:wrap64 ((nl:Int)+(ne:Int))=(nl:Int)+(ne:Int):=by unfold wrap64;omega
  rw[hw] at hd
  clear hw
  by_cases g1:(80:Int) < (nl:Int)+(ne:Int)
  ·clear hd HF
   go_enter Tryz.func17,Tryz.ntmps17
   go_wp2
   go_ret
   exact⟨.mk true rfl (fun e=>by cases e),hb⟩
  by_cases g2:40 < lv
  ·clear hd HF
   go_enter Tryz.func17,Tryz.ntmps17
   go_wp2
   go_ret
   exact⟨.mk true rfl (fun e=>by cases e),hb⟩
  by_cases g3:40 < ev
  ·clear hd HF
   go_enter Tryz.func17,Tryz.ntmps17
   go_wp2
   go_ret
   exact⟨.mk true rfl (fun e=>by cases e),hb⟩
  have hdf:false=d:=by rw[← hd];simp[g1,g2,g3];omega
  subst hdf
  have HF2:=Lib.hid (HF.out rfl)
  clear hd HF
  go_enter Tryz.func17,Tryz.ntmps17
  go_wp2
  go_ret
  exact⟨.mk false rfl (fun _=>HF2.out),hb⟩
 ·obtain⟨q,hq⟩: ∃q,wrap64 ((nl:Int)+(ne:Int))=q:=⟨_,rfl⟩
  have hneg: ¬(80:Int) < q:=by
   rw[← hq]
   unfold wrap64
   omega
  rw[hq] at hd
  have HQ:=Lib.hid hq
  clear hq
  by_cases g2:40 < lv
  ·clear hd HF
   go_enter Tryz.func17,Tryz.ntmps17
   go_wp2_with (rw[HQ.out])
   go_ret
   exact⟨.mk true rfl (fun e=>by cases e),hb⟩
  by_cases g3:40 < ev
  ·clear hd HF
   go_enter Tryz.func17,Tryz.ntmps17
   go_wp2_with (rw[HQ.out])
   go_ret
   exact⟨.mk true rfl (fun e=>by cases e),hb⟩
  have hdf:false=d:=by rw[← hd];simp[hneg,g2,g3];omega
  subst hdf
  have HF2:=Lib.hid (HF.out rfl)
  clear hd HF
  go_enter Tryz.func17,Tryz.ntmps17
  go_wp2_with (rw[HQ.out])
  go_ret
  exact⟨.mk false rfl (fun _=>HF2.out),hb⟩
end Go.Proofs.YtmejhedegmjboaaGreat
