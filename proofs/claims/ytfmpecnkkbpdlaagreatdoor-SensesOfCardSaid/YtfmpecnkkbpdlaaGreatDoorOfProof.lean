/- Proved: whatever the sorts and the scheme, SensesOf answers true: both senses of a scheme, of labels and of effects, are exactly as documented, or refused; what was handed in stays as it was, and the answers are memory of their own, spare room too; the three tables of the library that the text names are as the program lays them (the card ties them). No condition but that. -/
import Derived.Test.YtfmpecnkkbpdlaaGreatDoorRows
import Derived.Test.YtfmpecnkkbpdlaaGreatDoorTie
import Derived.Test.YtfmpecnkkbpdlaaGreatDoorCards
import Derived.LaidMore
import Derived.Stop.Joined
import Derived.SevenTiedAt
import Derived.SizedLaws
import Derived.Test.YtfmpecnkkbpdlaaGreatDoorOfWalk
set_option maxRecDepth 100000
namespace Go.Proofs.YtfmpecnkkbpdlaaGreatDoor.sensesOf
open Go.ChangeShapes Go.WideShapes Go.ChangeAt Go.RowKit
section
variable {Hx:Type} {enc:TypeId×Value→Hx} {W:World}
theorem ZjX:Tryz.prog.bytesOf 133=32:=by kernel_rfl
theorem Zb1 {m:Nat}{A:Option Addr}{n c:Nat}{y:DataW Hx×List MemPlace}(h:DataW.trod enc Tryz.prog W 0 (fun _=>true) true m 26 [.slice A n c]=some y):n=0∨ ∃x∈y.1.weights Tryz.prog 26,n*32≤x:=by
 rcases Go.Deep.open_slice Tryz.underlying26 h with⟨hcs,_⟩|⟨x,l',c',m',k',D,Pl,hcs,_,hl,hm,hmm,hy,hx⟩
 ·injection hcs with e _
  injection e with e1 e2 e3
  exact .inl e2
 ·injection hcs with e _
  injection e with e1 e2 e3
  subst e1 e2 e3
  refine .inr ⟨(((List.range n).map D).length+((List.range (m' - n)).map fun j=>D (n+j)).length)*Tryz.prog.bytesOf 133,?_,?_⟩
  ·rw[hy]
   simp[DataW.weights,Tryz.underlying26]
  ·rw[ZjX]
   simp only[List.length_map,List.length_range]
   exact Nat.mul_le_mul_right 32 (Nat.le_add_right _ _)
theorem ZcH {v:Value}{d:DataW Hx}{p:List MemPlace}(h:DataW.Trod enc Tryz.prog W 0 (fun _=>true) true 28 v d p)(hw: ∀y∈d.weights Tryz.prog 28,y≤140737488351232):
  ∃(s:Sch) (A:Option Addr) (n c:Nat) (A1:Option Addr) (n1 c1:Nat) (A2:Option Addr) (n2 c2:Nat),v=schV s A n c A1 n1 c1 A2 n2 c2∧Uo W s A n c A1 n1 c1 A2 n2 c2∧n1+n2≤9223372036854775807:=by
 obtain⟨s,A,n,c,A1,n1,c1,A2,n2,c2,rfl,hS,-,-⟩:=ZaB h
 refine⟨s,A,n,c,A1,n1,c1,A2,n2,c2,rfl,hS,?_⟩
 obtain⟨fuel,h⟩:=h
 obtain⟨xs,m',_,hx,hl',hlen,hf⟩:=DataW.trod_struct Tryz.underlying28 h
 match xs,hlen with
 | [y0,y1,y2,y3,y4],_=>
  have h3:DataW.trod enc Tryz.prog W 0 (fun _=>true) true m' 26 (List.take (Tryz.prog.cellsOf 26) (List.drop 3 (schV s A n c A1 n1 c1 A2 n2 c2).cells.toList))=some y3:=hf 3 _ rfl
  have h4:DataW.trod enc Tryz.prog W 0 (fun _=>true) true m' 26 (List.take (Tryz.prog.cellsOf 26) (List.drop 4 (schV s A n c A1 n1 c1 A2 n2 c2).cells.toList))=some y4:=hf 4 _ rfl
  rw[ZkI] at h3 h4
  have hd:d= .agg [y0.1,y1.1,y2.1,y3.1,y4.1]:=by
   injection hx
  have mem: ∀(j:Nat) (e:DataW Hx),([y0.1,y1.1,y2.1,y3.1,y4.1]:List (DataW Hx))[j]?=some e→([3,3,25,26,26]:List Nat)[j]?=some 26→ ∀y∈e.weights Tryz.prog 26,y≤140737488351232:=fun j e he ht y hy=>hw y (by
   rw[hd]
   simp only[DataW.weights,Tryz.underlying28]
   exact DataW.weights_mem_each (j:=j) (t:=26) (d:=e) ht he _ hy)
  have b1:n1*32≤140737488351232:=by
   rcases Zb1 h3 with e|⟨y,hy,hy2⟩
   ·omega
   ·exact Nat.le_trans hy2 (mem 3 _ rfl rfl y hy)
  have b2:n2*32≤140737488351232:=by
   rcases Zb1 h4 with e|⟨y,hy,hy2⟩
   ·omega
   ·exact Nat.le_trans hy2 (mem 4 _ rfl rfl y hy)
  omega
end
theorem own:ownKnob Tryz.prog.godebug=none:=by kernel_rfl
theorem laidOut:laidOutB Tryz.prog=true:=by kernel_rfl
theorem door_met (os:Os)(args:Array Value):laidMetH Tryz.prog Rows.sensesOfRow.laid ((World.doorLaid Tryz.prog 400 os).forCall (fun _ _=>0) ⟨#[],args,[]⟩).memory:=
 laidMetH_of_parts3 (fuel:=8) (laidMet_of_run' 8 (by kernel_rfl) (by kernel_rfl)) (by kernel_rfl) (by kernel_rfl)
theorem lifted (os:Os)(started:os.Started)(H:Type)(enc:TypeId×Value→H):
  ReturnsInHanded {} Tryz.checked os 3 .any (fun w args=>(Rows.sensesOfSpec.pre enc Tryz.prog Tryz.f3 [] false w args∧laidMetH Tryz.prog Rows.sensesOfRow.laid w)∧sizedMet enc Tryz.prog Tryz.f3 (OpenSpec.ofChange Rows.sensesOfSpec) false w args)
   (Rows.sensesOfSpec.post enc Tryz.prog Tryz.f3 false true false false):=by
 refine returnsInHanded_of_change_and (C:=Tryz.checked) (X:=fun w _=>laidMetH Tryz.prog Rows.sensesOfRow.laid w) (fun _ _ _ hh h=>h.of_heap hh) own started (by kernel_rfl) Tryz.func3
  (ChangeSpec.witness_shaped (enc:=enc) (C:=Tryz.checked) (os:=os) (X:=fun w _=>laidMetH Tryz.prog Rows.sensesOfRow.laid w) false (World.doorLaid Tryz.prog 400 os) #[.agg #[.slice none 0 0,.int .i64 0],.agg #[.int .i64 0,.int .i64 0,.slice none 0 0,.slice none 0 0,.slice none 0 0]] 8 rfl (World.shaped_of_RefB (by kernel_rfl) (by kernel_rfl)) (by kernel_rfl) (by kernel_rfl) (by kernel_rfl) (door_met os _)) ?_
 intro W base args ds gs before hval0 hW _ hsz0 hL _
 have hW':=hW
 obtain⟨p,q,hA0,hV,rfl,hfz,hnd⟩:=hW
 have hA:DataW.TrodAll enc Tryz.prog W 0 (fun _=>true) true Tryz.f3.params.toList args.toList ds p:=hA0
 have hsz:(DataW.weightsEach Tryz.prog (Tryz.f3.params.toList++Rows.sensesOfSpec.plain.varTypes Tryz.prog) (ds++gs)).all (· ≤reachBytes)=true:=hsz0
 rw[Tryz.params3] at hA hsz
 obtain⟨v0,vs0,d0,ds0,p0,q0,hargs,rfl,rfl,h0,r0⟩:=trodAll_cons hA
 obtain⟨v1,vs1,d1,ds1,p1,q1,rfl,rfl,rfl,h1,r1⟩:=trodAll_cons r0
 obtain⟨rfl,rfl,rfl⟩:=trodAll_nil r1
 obtain rfl:args= #[v0,v1]:=by cases args;simp_all
 obtain⟨rfl,rfl⟩:=trodVars_none hV
 have lt0: ∀x∈p0,x.block < W.heap.size:=by obtain⟨m,hm⟩:=h0;exact DataW.trod_lt m _ _ _ hm
 have lt1: ∀x∈p1,x.block < W.heap.size:=by obtain⟨m,hm⟩:=h1;exact DataW.trod_lt m _ _ _ hm
 have hw: ∀y∈d1.weights Tryz.prog 28,y≤140737488351232:=fun y hy=>by
  have h1:=List.all_eq_true.1 hsz _ (DataW.weights_mem_each (j:=1) (t:=28) (d:=d1) rfl rfl _ hy)
  simp only[reachBytes] at h1
  exact of_decide_eq_true h1
 obtain⟨A3,n3,c3,k,rows,rfl,hr,hrf⟩:=ZbM h0
 obtain⟨s,A,n,c,A1,n1,c1,A2,n2,c2,rfl,hS,hsum⟩:=ZcH h1 hw
 clear hA0 hval0
 refine(walk A3 n3 c3 k rows s A n c A1 n1 c1 A2 n2 c2 W hr hrf hS hsum).mono fun e W' ⟨he,bel⟩=> ?_
 subst he
 exact⟨_,rfl,_,_,_,[],_,[],hW',trodAll_mk1 (shut_bool Tryz.underlying4 _),(trodAll_cons_mk (Below.trod laidOut (by kernel_rfl) (of_decide_eq_true (by kernel_rfl)) h0 bel lt0) (trodAll_cons_mk (Below.trod laidOut (by kernel_rfl) (of_decide_eq_true (by kernel_rfl)) h1 bel lt1) trodAll_mk0)),rfl,bel.frame _,fun h=>by cases h⟩
theorem over:Rows.SensesOfSaid:=
 OpenClaim.holds_of_wide 3 Tryz.f3 rfl rfl rfl rfl rfl rfl rfl ⟨rfl,rfl,rfl,rfl,rfl⟩ rfl rfl rfl rfl rfl (by kernel_rfl) Tryz.func3 (by kernel_rfl)
  (of_decide_eq_true (by kernel_rfl)) (by unfold Func.isWrapper;first|(rw[if_pos (by decide+kernel)];kernel_rfl)|(rw[if_neg (by decide+kernel)];exact⟨rfl,rfl⟩))
  (fun os started H enc _=>lifted os started H enc)
theorem proved:Rows.SensesOfCardSaid:=
 Claim7.holds_tied_plain_at .later [] [.data,.data,.data] true (true, "9c6bd33a1efa4547bf82b70f42f0b063f1e838f97cc089b77f8f071ea6cf6638") false
  over (fun _ h=>by cases h) (by kernel_rfl) (fun _ h=>by cases h) sensesOf_row_tie rfl ⟨rfl,rfl⟩ (by kernel_rfl) rfl
  (fun f fn hf hfn=>by
   obtain rfl:f=3:=Option.some.inj ((show Tryz.prog.funcNamed Rows.sensesOfRow.func=some 3 by kernel_rfl).symm.trans hf)|>.symm
   obtain rfl:fn=Tryz.f3:=(Option.some.inj (Tryz.func3.symm.trans hfn)).symm
   exact⟨by kernel_rfl,fun j t ht=>by
    rw[Tryz.params3] at ht
    have hm:t∈ [24,28]:=by simpa using Array.mem_of_getElem? ht
    have hall:([24,28].all fun u=> !Tryz.prog.wantsStandIn u)=true:=by kernel_rfl
    exact(show Tryz.prog.wantsStandIn t=false by simpa using List.all_eq_true.1 hall t hm)⟩)
  (by kernel_rfl)
#print axioms proved
end Go.Proofs.YtfmpecnkkbpdlaaGreatDoor.sensesOf
