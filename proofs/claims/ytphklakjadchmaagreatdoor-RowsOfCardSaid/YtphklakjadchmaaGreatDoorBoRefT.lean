import Derived.ProofKit
import Derived.OpenShut
import Derived.ShutString
import Derived.ChangeOld
import Derived.Deep.Slices
import Derived.Test.YtphklakjadchmaaGreatDoorBoApp
import Derived.Test.YtphklakjadchmaaGreatDoorBoEnds
namespace Go.Proofs.YtphklakjadchmaaGreatDoor.Bo
open Go.ChangeShapes Go.WideShapes Go.ChangeAt Go.RowKit Go.Deep
theorem cell_old {w w':World}{p:Addr}{v:Value}(h:w.cell? p=some v)(hb:Below w.heap.size w w'):w'.cell? p=some v:=(hb.cell (World.block_lt_of_cell? w p h)).trans h
theorem c4:Tryz.prog.cellsOf 4=1:=by kernel_rfl
theorem c28:Tryz.prog.cellsOf 82=1:=by kernel_rfl
theorem c51:Tryz.prog.cellsOf 100=2:=by kernel_rfl
theorem two_of {α:Type}: ∀{l:List α},l.length=2→ ∃a b,l= [a,b]
 | [a,b],_=>⟨a,b,rfl⟩
theorem four_of {α:Type}: ∀{l:List α},l.length=4→ ∃a b c d,l= [a,b,c,d]
 | [a,b,c,d],_=>⟨a,b,c,d,rfl⟩
theorem agg_of {v:Value}{x y:Value}{l:List Value}(h:v.cells.toList=x::y::l):v= .agg (x::y::l).toArray:=by
 cases v <;> simp[Value.cells] at h
 rename_i xs
 congr 1
 apply Array.toList_inj.1
 simpa using h
section
variable {H:Type} {enc:TypeId×Value→H} {W:World}
theorem open_term {n:Nat}{cs:List Value}{x:DataW H×List MemPlace}(h:DataW.trod enc Tryz.prog W 0 (fun _=>true) true n 100 cs=some x): ∃(b:Bool) (z:Nat),cs= [.bool b,.int .u64 (z:Int)]∧z < 18446744073709551616:=by
 obtain⟨xs,m,_,_,hl,hlen,hf⟩:=DataW.trod_struct Tryz.underlying100 h
 rw[c51] at hl
 match xs,hlen with
 | [y0,y1],_=>
  have h0:DataW.trod enc Tryz.prog W 0 (fun _=>true) true m 4 (List.take (Tryz.prog.cellsOf 4) (List.drop 0 cs))=some y0:=hf 0 _ rfl
  have h1:DataW.trod enc Tryz.prog W 0 (fun _=>true) true m 82 (List.take (Tryz.prog.cellsOf 82) (List.drop 1 cs))=some y1:=hf 1 _ rfl
  rw[c4] at h0
  rw[c28] at h1
  obtain⟨b,e0,_⟩:=DataW.trod_bool Tryz.underlying4 h0
  obtain⟨z,e1,_,wz⟩:=DataW.trod_int Tryz.underlying82 h1
  obtain⟨y,rfl,hy⟩:=La.u64_nat wz
  obtain⟨u0,u1,rfl⟩:=two_of hl
  simp at e0 e1
  exact⟨b,y,by rw[e0,e1],hy⟩
theorem open_rows {n:Nat}{cs:List Value}{x:DataW H×List MemPlace}(h:DataW.trod enc Tryz.prog W 0 (fun _=>true) true n 22 cs=some x):
  ∃(a0:Option Addr) (len0 cap0:Nat) (l:List Nat),cs= [.slice a0 len0 cap0]∧Rd La.nm W W.heap.size a0 len0 cap0 l∧La.Fit l:=by
 obtain⟨a0,len0,cap0,e⟩: ∃a0 len0 cap0,cs= [Value.slice a0 len0 cap0]:=by
  rcases open_slice Tryz.underlying22 h with⟨hcs,_⟩|⟨x,l,c,m,n,D,Pl,hcs,_⟩
  ·exact⟨_,_,_,hcs⟩
  ·exact⟨_,_,_,hcs⟩
 subst e
 obtain⟨us,h1,h2⟩:=La.opened_nums (t:=22) (e:=82) (d:=x.1) (p:=x.2) Tryz.underlying22 Tryz.underlying82 c28 ⟨n,h⟩
 exact⟨a0,len0,cap0,us,rfl,h1,h2⟩
end
end Go.Proofs.YtphklakjadchmaaGreatDoor.Bo
namespace Go.Proofs.YtphklakjadchmaaGreatDoor.Bo
open Go.RowKit
def rsV (t:Nat)(A:Option Addr)(n c:Nat)(m:Nat):Value:= .agg #[.int .i64 (t:Int),.slice A n c,.int .i64 (m:Int)]
end Go.Proofs.YtphklakjadchmaaGreatDoor.Bo
