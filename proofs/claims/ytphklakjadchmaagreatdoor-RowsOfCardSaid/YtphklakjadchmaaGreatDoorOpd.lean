import Derived.Test.YtphklakjadchmaaGreatDoorLists
import Derived.Test.YtphklakjadchmaaGreatDoorBoRefT
import Derived.Test.YtphklakjadchmaaGreatDoorOfs
import Derived.Test.YtphklakjadchmaaGreatDoorSiA
namespace Go.Proofs.YtphklakjadchmaaGreatDoor
open Go.ChangeShapes Go.WideShapes Go.ChangeAt Go.RowKit Go.Deep
theorem c31s:Tryz.prog.cellsOf 24=2:=by kernel_rfl
theorem cNums:Tryz.prog.cellsOf 22=1:=by kernel_rfl
theorem cInt:Tryz.prog.cellsOf 3=1:=by kernel_rfl
def zV (A:Option Addr)(n c:Nat)(k:Int):Value:= .agg #[.slice A n c,.int .i64 k]
section
variable {H:Type} {enc:TypeId×Value→H} {W:World}
theorem opened_sorts {v:Value}{d:DataW H}{p:List MemPlace}(h:DataW.Trod enc Tryz.prog W 0 (fun _=>true) true 24 v d p):
  ∃(a0:Option Addr) (len0 cap0:Nat) (k:Int) (l:List Nat),v=zV a0 len0 cap0 k∧Rd La.nm W W.heap.size a0 len0 cap0 l∧La.Fit l:=by
 obtain⟨fuel,h⟩:=h
 obtain⟨xs,m,_,_,hl,hlen,hf⟩:=DataW.trod_struct Tryz.underlying24 h
 rw[c31s] at hl
 match xs,hlen with
 | [y0,y1],_=>
  have h0:DataW.trod enc Tryz.prog W 0 (fun _=>true) true m 22 (List.take (Tryz.prog.cellsOf 22) (List.drop 0 v.cells.toList))=some y0:=hf 0 _ rfl
  have h1:DataW.trod enc Tryz.prog W 0 (fun _=>true) true m 3 (List.take (Tryz.prog.cellsOf 3) (List.drop 1 v.cells.toList))=some y1:=hf 1 _ rfl
  rw[cNums] at h0
  rw[cInt] at h1
  obtain⟨a0,len0,cap0,l,e0,hr,hfit⟩:=Bo.open_rows h0
  obtain⟨k,e1,_,_⟩:=DataW.trod_int Tryz.underlying3 h1
  obtain⟨u0,u1,e⟩:=two_of hl
  rw[e] at e0 e1
  simp at e0 e1
  subst e0 e1
  exact⟨a0,len0,cap0,k,l,Bo.agg_of e,hr,hfit⟩
end
def laOf (rows:List Nat):Bo.Sr:=if La.checkN rows=0 then Bo.laS rows else Bo.dead
def efOf (k:Int):Bo.Sr:=if 0≤k∧k≤64 then Bo.efS true (Ef.topN k.toNat) else Bo.dead
theorem laOf_ok (rows:List Nat):(laOf rows).Ok:=by
 unfold laOf
 split
 ·rename_i h
  exact Bo.la_ok (La.latOK_of h)
 ·exact Bo.dead_ok
theorem efOf_ok (k:Int):(efOf k).Ok:=by
 unfold efOf
 split
 ·exact Bo.ef_ok true (Ef.topN_lt (by omega))
 ·exact Bo.dead_ok
theorem lat_any (A:Option Addr)(n c:Nat)(rows:List Nat)(w:World)(h:Rd La.nm w w.heap.size A n c rows)(hf:La.Fit rows):
  Calls Tryz.prog 25 #[.slice A n c] w fun e w'=> ∃a x,e= .returned (.tuple #[.pointer a,.int .i64 x])∧Bo.Ans w' 253 251 254 255 252 256 (.pointer a) (laOf rows)∧Below w.heap.size w w':=by
 by_cases hx:La.checkN rows=0
 ·refine(La.new_yes A n c rows w h hf hx).mono ?_
  rintro e w' ⟨g,rfl,-,hl,hb⟩
  refine⟨_,0,rfl,?_,hb⟩
  unfold laOf
  rw[if_pos hx]
  rw[← h.len] at hl
  exact Bo.ans_la hl
 ·refine(La.new_no A n c rows w h hf _ rfl hx).mono ?_
  rintro e w' ⟨rfl,hb⟩
  refine⟨none,_,rfl,?_,hb⟩
  unfold laOf
  rw[if_neg hx]
  exact Bo.ans_la_nil _
theorem ef_dead:Bo.efS false 0=Bo.dead:=by
 unfold Bo.efS Bo.dead
 congr
theorem eff_any (k:Int)(w:World):Calls Tryz.prog 26 #[.int .i64 k] w fun e w'=> ∃a x,e= .returned (.tuple #[.pointer a,.int .i64 x])∧Bo.Ans w' 264 262 265 266 263 267 (.pointer a) (efOf k)∧Below w.heap.size w w':=by
 by_cases hk:0≤k∧k≤64
 ·obtain⟨y,rfl⟩: ∃y:Nat,k=(y:Int):=⟨k.toNat,by omega⟩
  refine(Ef.new_yes y (by omega) w).mono ?_
  rintro e w' ⟨g,rfl,he,hb⟩
  refine⟨_,0,rfl,?_,hb⟩
  unfold efOf
  rw[if_pos hk,Int.toNat_natCast]
  exact Bo.ans_ef (.inr ⟨g,rfl,he⟩)
 ·refine(Ef.new_no k hk w).mono ?_
  rintro e w' ⟨rfl,rfl⟩
  refine⟨none,_,rfl,?_,Below.refl _ _⟩
  unfold efOf
  rw[if_neg hk, ← ef_dead]
  exact Bo.ans_ef (.inl ⟨rfl,rfl,rfl⟩)
set_option maxRecDepth 100000 in
set_option maxHeartbeats 1000000 in
theorem of_sorts (A:Option Addr)(n c:Nat)(k:Int)(rows:List Nat)(w:World)(h:Rd La.nm w w.heap.size A n c rows)(hf:La.Fit rows):
  Calls Tryz.prog 6 #[zV A n c k] w fun e w'=> ∃a b,e= .returned (.tuple #[.iface 83 (.pointer a),.iface 86 (.pointer b)])∧Both w' a b (laOf rows) (efOf k)∧Below w.heap.size w w':=by
 have hal:Below w.heap.size w (w.alloc (.cells #[.slice A n c,.int .i64 k] 24)):=(Below.refl _ _).alloc (Nat.le_refl _) _
 have h1:=h.at_size (Nat.le_refl _) hal
 have hc0:(w.alloc (.cells #[.slice A n c,.int .i64 k] 24)).cell? ⟨w.heap.size,1,none⟩=some (.int .i64 k):=(cell_blk (i:=1) (heap_alloc_new w _)).trans rfl
 unfold zV
 clear h
 go_enter Tryz.func6,Tryz.ntmps6
 go_wp2_with fail
 refine(lat_any A n c rows _ h1 hf).mono ?_
 rintro e w1 ⟨a,x,rfl,hl,hb⟩
 have hc1:=cell_old hc0 hb
 have HL:=Lib.hid hl
 clear hl hc0 h1
 go_wp2_with fail
 refine(eff_any k _).mono ?_
 rintro e w2 ⟨b,y,rfl,hx,hb2⟩
 have HX:=Lib.hid hx
 clear hx hc1
 go_wp2_with fail
 exact bodyPost_ret (v:= .tuple #[.iface 83 (.pointer a),.iface 86 (.pointer b)]) (by simp[results,Tryz.results6,go_sem]) rfl ⟨a,b,rfl,⟨HL.out.keep hb2,HX.out⟩,hal.trans ((hb.trans (hb2.mono hb.size)).mono hal.size)⟩
def TellsB (e:Ending)(P:Bool→Prop):Prop:= ∃r,e= .returned (.bool r)∧P r
theorem TellsB.mk {e:Ending}{P:Bool→Prop}(r:Bool)(he:e= .returned (.bool r))(h:P r):TellsB e P:=⟨r,he,h⟩
end Go.Proofs.YtphklakjadchmaaGreatDoor
namespace Go.Proofs.YtphklakjadchmaaGreatDoor.I
open Go.ChangeShapes Go.WideShapes Go.ChangeAt Go.RowKit Go.Deep
theorem cSpot:Tryz.prog.cellsOf 102=5:=by kernel_rfl
theorem cTerm:Tryz.prog.cellsOf 100=2:=by kernel_rfl
theorem cBool:Tryz.prog.cellsOf 4=1:=by kernel_rfl
theorem cPart:Tryz.prog.cellsOf 97=1:=by kernel_rfl
theorem cSide:Tryz.prog.cellsOf 98=1:=by kernel_rfl
theorem cSpots:Tryz.prog.cellsOf 25=1:=by kernel_rfl
theorem cLists:Tryz.prog.cellsOf 26=1:=by kernel_rfl
theorem cList:Tryz.prog.cellsOf 42=1:=by kernel_rfl
theorem cSense:Tryz.prog.cellsOf 28=4:=by kernel_rfl
theorem five_of' {α:Type}: ∀{l:List α},l.length=5→ ∃a b c d e,l= [a,b,c,d,e]
 | [a,b,c,d,e],_=>⟨a,b,c,d,e,rfl⟩
section
variable {H:Type} {enc:TypeId×Value→H} {W:World}
theorem open_spot {n:Nat}{cs:List Value}{x:DataW H×List MemPlace}(h:DataW.trod enc Tryz.prog W 0 (fun _=>true) true n 102 cs=some x): ∃y:Sp,cs=spc y:=by
 obtain⟨xs,m,_,_,hl,hlen,hf⟩:=DataW.trod_struct Tryz.underlying102 h
 rw[cSpot] at hl
 match xs,hlen with
 | [y0,y1,y2,y3],_=>
  have h0:DataW.trod enc Tryz.prog W 0 (fun _=>true) true m 3 (List.take (Tryz.prog.cellsOf 3) (List.drop 0 cs))=some y0:=hf 0 _ rfl
  have h1:DataW.trod enc Tryz.prog W 0 (fun _=>true) true m 97 (List.take (Tryz.prog.cellsOf 97) (List.drop 1 cs))=some y1:=hf 1 _ rfl
  have h2:DataW.trod enc Tryz.prog W 0 (fun _=>true) true m 98 (List.take (Tryz.prog.cellsOf 98) (List.drop 2 cs))=some y2:=hf 2 _ rfl
  have h3:DataW.trod enc Tryz.prog W 0 (fun _=>true) true m 100 (List.take (Tryz.prog.cellsOf 100) (List.drop 3 cs))=some y3:=hf 3 _ rfl
  rw[cInt] at h0
  rw[cPart] at h1
  rw[cSide] at h2
  rw[cTerm] at h3
  obtain⟨k,e0,_,_⟩:=DataW.trod_int Tryz.underlying3 h0
  obtain⟨p,e1,_,w1⟩:=DataW.trod_int Tryz.underlying97 h1
  obtain⟨s,e2,_,w2⟩:=DataW.trod_int Tryz.underlying98 h2
  obtain⟨v,z,e3,_⟩:=Bo.open_term h3
  obtain⟨f0,_⟩:=u8_fits w1
  obtain⟨f1,_⟩:=u8_fits w2
  obtain⟨u0,u1,u2,u3,u4,rfl⟩:=five_of' hl
  simp at e0 e1 e2 e3
  refine⟨⟨k,p.toNat,s.toNat,v,z⟩,?_⟩
  simp only[spc]
  rw[e0,e1,e2,e3.1,e3.2,Int.toNat_of_nonneg f0,Int.toNat_of_nonneg f1]
theorem open_spots {n:Nat}{cs:List Value}{x:DataW H×List MemPlace}(h:DataW.trod enc Tryz.prog W 0 (fun _=>true) true n 25 cs=some x):
  ∃(a0:Option Addr) (len0 cap0:Nat) (l:List Sp),cs= [.slice a0 len0 cap0]∧Rs spc 5 W W.heap.size a0 len0 cap0 l:=by
 rcases open_slice Tryz.underlying25 h with⟨hcs,_⟩|⟨x,l,c,m,n,D,Pl,hcs,_,hl,hm,hmm,_,hx⟩
 ·exact⟨none,0,0,[],hcs,Rs.nil _ _⟩
 ·have hm':m=c:=by simpa using hmm
  have each: ∀i,i < l→ ∃y:Sp,∀j u,(spc y)[j]?=some u→W.cell? ((x.add (i*5)).add j)=some u:=by
   intro i hi
   obtain⟨cs',h1,h2⟩:=hx i (by omega)
   obtain⟨y,rfl⟩:=open_spot h2
   rw[cSpot] at h1
   obtain⟨_,_,hc⟩:=World.cells?_some h1
   refine⟨y,fun j u hu=> ?_⟩
   have hj:j < (spc y).length:=(List.getElem?_eq_some_iff.1 hu).1
   have:=hc j (by rw[spc_len] at hj;exact hj)
   rw[this]
   exact hu
  obtain⟨f,hg⟩: ∃f:Nat→Sp,∀i,i < l→ ∀j u,(spc (f i))[j]?=some u→W.cell? ((x.add (i*5)).add j)=some u:=
   ⟨fun i=>if h:i < l then Classical.choose (each i h) else⟨0,0,0,false,0⟩,fun i h=>by
    simp only[dif_pos h]
    exact Classical.choose_spec (each i h)⟩
  refine⟨some x,l,c,(List.range l).map f,hcs,⟨by simp,hl,hm,(fun h=>by cases h),fun h0=> ?_⟩⟩
  obtain⟨b,o,spot⟩:=x
  have hc0:=hg 0 (by omega) 0 _ rfl
  have hspot:spot=none:=by simpa [Addr.add] using World.cell?_spot hc0
  subst hspot
  refine⟨b,o,rfl,?_,fun j hj i u hu=> ?_⟩
  ·exact World.block_lt_of_cell? W ⟨b,o,none⟩ (by simpa [Addr.add] using hc0)
  ·rw[List.length_map,List.length_range] at hj
   simp only[List.getElem_map,List.getElem_range] at hu
   have:=hg j hj i u hu
   rwa [Addr.add_lit,Addr.add_lit] at this
theorem open_bools {n:Nat}{cs:List Value}{x:DataW H×List MemPlace}(h:DataW.trod enc Tryz.prog W 0 (fun _=>true) true n 42 cs=some x):
  ∃(a0:Option Addr) (len0 cap0:Nat) (l:List Bool),cs= [.slice a0 len0 cap0]∧Rd Value.bool W W.heap.size a0 len0 cap0 l:=by
 rcases open_slice Tryz.underlying42 h with⟨hcs,_⟩|⟨x,l,c,m,n,D,Pl,hcs,_,hl,hm,hmm,_,hx⟩
 ·exact⟨none,0,0,[],hcs,Rd.nil _ _⟩
 ·have hm':m=c:=by simpa using hmm
  have each: ∀i,i < l→ ∃y:Bool,W.cell? (x.add i)=some (.bool y):=by
   intro i hi
   obtain⟨cs',h1,h2⟩:=hx i (by omega)
   rw[cBool] at h1
   obtain⟨y,rfl,_⟩:=DataW.trod_bool Tryz.underlying4 h2
   obtain⟨_,_,hc⟩:=World.cells?_some h1
   have:=hc 0 (by decide)
   exact⟨y,by simpa [Addr.add] using this⟩
  obtain⟨f,hg⟩: ∃f:Nat→Bool,∀i,i < l→W.cell? (x.add i)=some (.bool (f i)):=
   ⟨fun i=>if h:i < l then Classical.choose (each i h) else false,fun i h=>by
    simp only[dif_pos h]
    exact Classical.choose_spec (each i h)⟩
  refine⟨some x,l,c,(List.range l).map f,hcs,⟨by simp,hl,hm,(fun h=>by cases h),fun h0=> ?_⟩⟩
  obtain⟨b,o,spot⟩:=x
  have hc0:=hg 0 (by omega)
  have hspot:spot=none:=by simpa [Addr.add] using World.cell?_spot hc0
  subst hspot
  refine⟨b,o,rfl,?_,fun j hj=> ?_⟩
  ·exact World.block_lt_of_cell? W ⟨b,o,none⟩ (by simpa [Addr.add] using hc0)
  ·have hj':j < l:=by simpa using hj
   have:=hg j hj'
   rw[List.getElem_map,List.getElem_range]
   rwa [Addr.add_lit] at this
theorem open_lists {n:Nat}{cs:List Value}{x:DataW H×List MemPlace}(h:DataW.trod enc Tryz.prog W 0 (fun _=>true) true n 26 cs=some x):
  ∃(a0:Option Addr) (len0 cap0:Nat) (l:List (List Bool)),cs= [.slice a0 len0 cap0]∧BRows W W.heap.size a0 len0 cap0 l:=by
 rcases open_slice Tryz.underlying26 h with⟨hcs,_⟩|⟨x,l,c,m,n,D,Pl,hcs,_,hl,hm,hmm,_,hx⟩
 ·exact⟨none,0,0,[],hcs,BRows.nil _ _⟩
 ·have hm':m=c:=by simpa using hmm
  have each: ∀i,i < l→ ∃y:(Option Addr×Nat×Nat)×List Bool,W.cell? (x.add i)=some (slc y.1)∧Rd Value.bool W W.heap.size y.1.1 y.1.2.1 y.1.2.2 y.2:=by
   intro i hi
   obtain⟨cs',h1,h2⟩:=hx i (by omega)
   rw[cList] at h1
   obtain⟨A,k,c',l',rfl,hr⟩:=open_bools h2
   obtain⟨_,_,hc⟩:=World.cells?_some h1
   have:=hc 0 (by decide)
   exact⟨⟨(A,k,c'),l'⟩,by simpa [Addr.add,slc] using this,hr⟩
  obtain⟨f,hg⟩: ∃f:Nat→(Option Addr×Nat×Nat)×List Bool,∀i,i < l→W.cell? (x.add i)=some (slc (f i).1)∧Rd Value.bool W W.heap.size (f i).1.1 (f i).1.2.1 (f i).1.2.2 (f i).2:=
   ⟨fun i=>if h:i < l then Classical.choose (each i h) else⟨(none,0,0),[]⟩,fun i h=>by
    simp only[dif_pos h]
    exact Classical.choose_spec (each i h)⟩
  refine⟨some x,l,c,(List.range l).map fun i=>(f i).2,hcs,⟨(List.range l).map fun i=>(f i).1,⟨by simp,hl,hm,(fun h=>by cases h),fun h0=> ?_⟩,by simp,fun i h1 h2=> ?_⟩⟩
  ·obtain⟨b,o,spot⟩:=x
   have hc0:=(hg 0 (by omega)).1
   have hspot:spot=none:=by simpa [Addr.add] using World.cell?_spot hc0
   subst hspot
   refine⟨b,o,rfl,?_,fun j hj=> ?_⟩
   ·exact World.block_lt_of_cell? W ⟨b,o,none⟩ (by simpa [Addr.add] using hc0)
   ·have hj':j < l:=by simpa using hj
    have:=(hg j hj').1
    rw[List.getElem_map,List.getElem_range]
    rwa [Addr.add_lit] at this
  ·have hi:i < l:=by simpa using h1
   simpa using (hg i hi).2
theorem opened_sense {v:Value}{d:DataW H}{p:List MemPlace}(h:DataW.Trod enc Tryz.prog W 0 (fun _=>true) true 28 v d p):
  ∃(z:Sen) (A1:Option Addr) (n1 c1:Nat) (A2:Option Addr) (n2 c2:Nat) (A3:Option Addr) (n3 c3:Nat) (A4:Option Addr) (n4 c4:Nat),v=senV A1 n1 c1 A2 n2 c2 A3 n3 c3 A4 n4 c4∧SenAt W z A1 n1 c1 A2 n2 c2 A3 n3 c3 A4 n4 c4:=by
 obtain⟨fuel,h⟩:=h
 obtain⟨xs,m,_,_,hl,hlen,hf⟩:=DataW.trod_struct Tryz.underlying28 h
 rw[cSense] at hl
 match xs,hlen with
 | [y0,y1,y2,y3],_=>
  have h0:DataW.trod enc Tryz.prog W 0 (fun _=>true) true m 25 (List.take (Tryz.prog.cellsOf 25) (List.drop 0 v.cells.toList))=some y0:=hf 0 _ rfl
  have h1:DataW.trod enc Tryz.prog W 0 (fun _=>true) true m 22 (List.take (Tryz.prog.cellsOf 22) (List.drop 1 v.cells.toList))=some y1:=hf 1 _ rfl
  have h2:DataW.trod enc Tryz.prog W 0 (fun _=>true) true m 22 (List.take (Tryz.prog.cellsOf 22) (List.drop 2 v.cells.toList))=some y2:=hf 2 _ rfl
  have h3:DataW.trod enc Tryz.prog W 0 (fun _=>true) true m 26 (List.take (Tryz.prog.cellsOf 26) (List.drop 3 v.cells.toList))=some y3:=hf 3 _ rfl
  rw[cSpots] at h0
  rw[cNums] at h1 h2
  rw[cLists] at h3
  obtain⟨A1,n1,c1,l1,e0,r1⟩:=open_spots h0
  obtain⟨A2,n2,c2,l2,e1,r2,f2⟩:=Bo.open_rows h1
  obtain⟨A3,n3,c3,l3,e2,r3,f3⟩:=Bo.open_rows h2
  obtain⟨A4,n4,c4,l4,e3,r4⟩:=open_lists h3
  obtain⟨u0,u1,u2,u3,e⟩:=Bo.four_of hl
  rw[e] at e0 e1 e2 e3
  simp at e0 e1 e2 e3
  subst e0 e1 e2 e3
  exact⟨⟨l1,l2,l3,l4⟩,A1,n1,c1,A2,n2,c2,A3,n3,c3,A4,n4,c4,Bo.agg_of e,⟨r1,r2,r3,r4,f2,f3⟩⟩
end
end Go.Proofs.YtphklakjadchmaaGreatDoor.I
