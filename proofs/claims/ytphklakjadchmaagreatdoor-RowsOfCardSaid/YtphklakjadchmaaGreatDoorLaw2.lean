import Derived.Lib.SliceRun
import Derived.Test.YtphklakjadchmaaGreatDoorOf
import Derived.Test.YtphklakjadchmaaGreatDoorTerms
namespace Go.Proofs.YtphklakjadchmaaGreatDoor
open Go.RowKit
theorem spot_at {w:World}{B n c:Nat}{A:Option Addr}{l:List Sp}(h:Rs spc 5 w B A n c l){k:Nat}(hk:k < l.length): ∃b o,A=some ⟨b,o,none⟩∧b < B∧
  w.cell? ⟨b,o+k*5,none⟩=some (.int .i64 (l[k].n:Int))∧w.cell? ⟨b,o+k*5+1,none⟩=some (.int .u8 (l[k].p:Int))∧w.cell? ⟨b,o+k*5+2,none⟩=some (.int .u8 (l[k].s:Int))∧w.cell? ⟨b,o+k*5+3,none⟩=some (.bool l[k].v)∧w.cell? ⟨b,o+k*5+4,none⟩=some (.int .u64 l[k].z):=by
 obtain⟨b,o,e,hb,hc⟩:=h.spot (by have:=h.len;omega)
 have hc:=hc k hk
 exact⟨b,o,e,hb,hc 0 _ rfl,hc 1 _ rfl,hc 2 _ rfl,hc 3 _ rfl,hc 4 _ rfl⟩
theorem own_behind {w w':World}{base n sz:Nat}{E:TypeId}{v:Value}{xs:List Value}(h:w.ownsRow base E sz v n xs)(hb:Below w.heap.size w w'):w'.ownsRow base E sz v n xs:=by
 refine⟨h.1,?_⟩
 rcases h.2 with hn|⟨g,cap,cur,hv,hg,hgg,r⟩
 ·exact .inl hn
 ·exact .inr ⟨g,cap,cur,hv,hg,(hb.block g (lt_blk hgg)).trans hgg,r⟩
end Go.Proofs.YtphklakjadchmaaGreatDoor
namespace Go.Proofs.YtphklakjadchmaaGreatDoor
open Go.RowKit
end Go.Proofs.YtphklakjadchmaaGreatDoor
namespace Go.Proofs.YtphklakjadchmaaGreatDoor
open Go.RowKit
def LfRel (n:Nat)(w:World)(i5:Value)(wr:World):Prop:= ∃k q:Nat,i5= .int .i64 (k:Int)∧k≤n∧wr=w.drewN q
end Go.Proofs.YtphklakjadchmaaGreatDoor
namespace Go.Proofs.YtphklakjadchmaaGreatDoor
open Go.RowKit
theorem of_lit (A:Option Addr)(m c:Nat)(l:List Nd)(ls es:List Sp)(w:World)(hr:Ns w w.heap.size A m c l)(hf: ∀x∈l,x.Fits)(e1:labB l=ls)(e2:effB l=es):
  Calls Tryz.prog 94 #[.slice A m c] w fun e w'=> ∃A1 n1 c1 A2 n2 c2,e= .returned (.tuple #[.slice A1 n1 c1,.slice A2 n2 c2])∧w'.ownsRow w.heap.size 102 5 (.slice A1 n1 c1) n1 (ls.flatMap spc)∧w'.ownsRow w.heap.size 102 5 (.slice A2 n2 c2) n2 (es.flatMap spc)∧
   (∀q,(Value.slice A1 n1 c1).ownBlock=some q→(Value.slice A2 n2 c2).ownBlock≠some q)∧Below w.heap.size w w':=by
 have:=of_any A m c l w hr hf
 rw[e1,e2] at this
 refine this.mono ?_
 rintro e w' ⟨v,u,rfl,h⟩
 obtain⟨A1,c1,rfl⟩:=rs_own_form h.o2
 obtain⟨A2,c2,rfl⟩:=rs_own_form h.o3
 exact⟨A1,_,c1,A2,_,c2,rfl,h.o2,h.o3,h.ap,h.bel⟩
end Go.Proofs.YtphklakjadchmaaGreatDoor
namespace Go.Proofs.YtphklakjadchmaaGreatDoor
open Go.RowKit
structure Two2 (w w':World)(A1:Option Addr)(n1 c1:Nat)(ls:List Sp)(A2:Option Addr)(n2 c2:Nat)(es:List Sp):Prop where
 o1:w'.ownsRow w.heap.size 102 5 (.slice A1 n1 c1) n1 (ls.flatMap spc)
 o2:w'.ownsRow w.heap.size 102 5 (.slice A2 n2 c2) n2 (es.flatMap spc)
 ap: ∀q,(Value.slice A1 n1 c1).ownBlock=some q→(Value.slice A2 n2 c2).ownBlock≠some q
 bel:Below w.heap.size w w'
theorem Two2.r1 {w w':World}{A1 A2:Option Addr}{n1 c1 n2 c2:Nat}{ls es:List Sp}(h:Two2 w w' A1 n1 c1 ls A2 n2 c2 es):Rs spc 5 w' w'.heap.size A1 n1 c1 ls:=Rs.of_own spc_len (by decide) h.o1
theorem Two2.r2 {w w':World}{A1 A2:Option Addr}{n1 c1 n2 c2:Nat}{ls es:List Sp}(h:Two2 w w' A1 n1 c1 ls A2 n2 c2 es):Rs spc 5 w' w'.heap.size A2 n2 c2 es:=Rs.of_own spc_len (by decide) h.o2
theorem of_len (A:Option Addr)(m c:Nat)(l:List Nd)(ls es:List Sp)(kl ke:Nat)(w:World)(hr:Ns w w.heap.size A m c l)(hf: ∀x∈l,x.Fits)(e1:labB l=ls)(e2:effB l=es)(e3:ls.length=kl)(e4:es.length=ke):
  Calls Tryz.prog 94 #[.slice A m c] w fun e w'=> ∃A1 c1 A2 c2,e= .returned (.tuple #[.slice A1 kl c1,.slice A2 ke c2])∧Two2 w w' A1 kl c1 ls A2 ke c2 es:=by
 refine(of_lit A m c l ls es w hr hf e1 e2).mono ?_
 rintro e w1 ⟨Av,nv,cv,Au,nu,cu,rfl,ov,ou,ap,hb⟩
 have e1:=rs_own_len spc_len (by decide) ov
 have e2:=rs_own_len spc_len (by decide) ou
 rw[e3] at e1
 rw[e4] at e2
 subst e1
 subst e2
 exact⟨Av,cv,Au,cu,rfl,ov,ou,ap,hb⟩
end Go.Proofs.YtphklakjadchmaaGreatDoor
