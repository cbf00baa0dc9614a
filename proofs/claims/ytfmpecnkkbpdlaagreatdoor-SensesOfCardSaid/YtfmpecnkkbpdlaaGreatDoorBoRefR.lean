import Derived.Test.YtfmpecnkkbpdlaaGreatDoorBoRefF
import Derived.Test.YtfmpecnkkbpdlaaGreatDoorSen
set_option maxRecDepth 100000
set_option maxHeartbeats 8000000
namespace Go.Proofs.YtfmpecnkkbpdlaaGreatDoor.Bo
open Go.RowKit
theorem ZV {w w':World}{base sz n:Nat}{e:TypeId}{v:Value}{xs:List Value}(h:w.ownsRow base e sz v n xs)(hb:Below w.heap.size w w'):w'.ownsRow base e sz v n xs:=by
 refine⟨h.1,?_⟩
 rcases h.2 with hn|⟨g,cap,cur,hv,hg,hgg,r⟩
 ·exact .inl hn
 ·exact .inr ⟨g,cap,cur,hv,hg,(hb.block g (Array.getElem?_eq_some_iff.1 hgg).1).trans hgg,r⟩
theorem Zks {α:Type}{enc:α→List Value}{sz:Nat}{E:TypeId}{w:World}{g base n:Nat}{cs:Array Value}{l:List α}(he: ∀x,(enc x).length=sz)(hg:w.heap[g]?=some (.cells cs E (0,0)))(hb:base≤g)(hcs:cs.toList=l.flatMap enc)(hn:l.length=n)(hm:n≤maxLen):
  w.ownsRow base E sz (.slice (some ⟨g,0,none⟩) n n) n (l.flatMap enc):=by
 have hl:(l.flatMap enc).length=n*sz:=by rw[Vb he,hn]
 refine⟨hl,.inr ⟨g,n,cs,rfl,hb,hg,Nat.le_refl _,hm,?_,?_⟩⟩
 ·rw[← Array.length_toList,hcs,hl]
 ·rw[hcs,List.take_of_length_le (by rw[hl];exact Nat.le_refl _)]
theorem VW {w:World}{ops:Array Oper}{rest:List Oper}{o:Oper}{a:Act}{Q:Exit→Act→World→Prop}(hgd:o.guard=none)(s x:Operand)
  (ho:o.op= .call {callee:= .builtin .append,args:= #[s,x],argTypes:= #[196,196]})
  (base:Nat) (v:Value) (n:Nat) (vs:List Tm) (hs:a.eval s=v) (hown:w.ownsRow base 74 2 v n (vs.flatMap tmc)) (B:Nat) (A:Option Addr) (m c:Nat) (ms:List Tm) (hx:a.eval x= .slice A m c) (hr:Rs tmc 2 w B A m c ms)
  (hsm:n+m≤100000) (hbase:base≤w.heap.size)
  (h: ∀A' k c' w',Hid (k=n+m)→Hid (Appended w w' base 74 2 v (.slice A' k c') k ((vs++ms).flatMap tmc))→wpList Tryz.prog ops Q rest (a.put o.dst (.slice A' k c')) w'):wpList Tryz.prog ops Q (o::rest) a w:=
 wpList_plain hgd fun _ hK=>VX ZJ (by decide) ZjT Tryz.underlying196 ZkN rfl (by decide) s x ho base v n vs hs hown B A m c ms hx hr hsm hbase fun A' k c' w' g1 g2=>hK _ _ (h A' k c' w' g1 g2)
theorem Rj (w:World)(b:Bool)(x:Nat):Rs tmc 2 (w.alloc (.cells #[.bool b,.int .u64 (x:Int)] 74)) (w.alloc (.cells #[.bool b,.int .u64 (x:Int)] 74)).heap.size (some ⟨w.heap.size,0,none⟩) 1 1 [(b,x)]:=
 Rs.of_blk ZJ (heap_alloc_new w _) ⟨[],rfl⟩ rfl lR (by unfold maxLen;omega)
theorem Yh {out:List Tm}{t:Tm}(h:t.1=true):addC out t=out:=by
 unfold addC
 rw[if_neg (fun e=>by rw[h] at e;cases e.1)]
theorem Yi {out:List Tm}{n:Nat}(h:decide ((false,n)∈out)=true):addC out (false,n)=out:=by
 unfold addC
 rw[if_neg (fun e=>e.2 (of_decide_eq_true h))]
theorem Yj {out:List Tm}{n:Nat}(h:decide ((false,n)∈out)=false):addC out (false,n)=out++ [(false,n)]:=by
 unfold addC
 rw[if_pos ⟨rfl,of_decide_eq_false h⟩]
def Zk6 (l:List Bd)(w:World)(v3 v4:Value)(wr:World):Prop:=
 ∃(i:Nat) (A:Option Addr) (k c:Nat) (out:List Tm),v4= .int .i64 (i:Int)∧i≤l.length∧v3= .slice A k c∧wr.ownsRow w.heap.size 74 2 (.slice A k c) k (out.flatMap tmc)∧Consts l i out∧Below w.heap.size w wr
theorem Zak (A:Option Addr)(n c:Nat)(l:List Bd)(w:World)(h:Rs bdc 4 w w.heap.size A n c l)(hf: ∀b∈l,b.Fit)(hn:l.length≤256):
  Calls Tryz.prog 192 #[.slice A n c] w fun e w'=> ∃A' k c' out,e= .returned (.slice A' k c')∧w'.ownsRow w.heap.size 74 2 (.slice A' k c') k (out.flatMap tmc)∧Consts l l.length out∧Below w.heap.size w w':=by
 have HL:=Hd h.len
 have htop:=h.top
 have hcap:=h.cap
 unfold maxLen at htop
 have HR:=Hd h
 have HF:=Hd hf
 have HN:=Hd hn
 clear h hf hn
 go_enter Tryz.func192,Tryz.ntmps192
 go_wp2_with fail
 go_loopw [3,4] (fun v3 v4 wr=>Zk6 l w v3 v4 wr) (fun _ v4 _=>n - (intOf v4).toNat)
 case atStart=>exact⟨0,none,0,0,[],rfl,by omega,rfl,World.ownsRow_nil _ _ _ _,Consts.start l,Below.refl _ _⟩
 case round=>
  obtain⟨i,A3,k3,c3,out,rfl,hi,rfl,hown,hcs,hb⟩:=hrel
  by_cases hlt:i < n
  ·have hi':i < l.length:=by rw[HL.out];exact hlt
   obtain⟨b,o,rfl,hbb,e0,e1,e2,e3⟩:=V4 HR.out hi'
   have hu:=HF.out _ (List.getElem_mem hi')
   have HNX:=Hd (hcs.next hi')
   have HCL:=Hd hcs.len
   generalize l[i]=y at*
   obtain⟨av,an,bv,bn⟩:=y
   simp only[Bd.a,Bd.b] at e0 e1 e2 e3 hu HNX
   have HE0:=Hd fun W (hW:Below w.heap.size w W)=>(hW.cell (p:=⟨b,o+i*4,none⟩) hbb).trans e0
   have HE1:=Hd fun W (hW:Below w.heap.size w W)=>(hW.cell (p:=⟨b,o+i*4+1,none⟩) hbb).trans e1
   have HE2:=Hd fun W (hW:Below w.heap.size w W)=>(hW.cell (p:=⟨b,o+i*4+2,none⟩) hbb).trans e2
   have HE3:=Hd fun W (hW:Below w.heap.size w W)=>(hW.cell (p:=⟨b,o+i*4+3,none⟩) hbb).trans e3
   replace e0:=HE0.out _ hb
   replace e1:=HE1.out _ hb
   replace e2:=HE2.out _ hb
   replace e3:=HE3.out _ hb
   have HKL:Hid (out.length=k3):=Hd (ZI ZJ (by decide) hown)
   have HLT:=Hd hlt
   have HU:=Hd hu
   clear hbb hi' hcs hu
   cases av with
   |true=>
    cases bv with
    |true=>
     have HEA:=Hd (Yh (out:=out) (t:=(true,an)) rfl)
     have HEB:=Hd (Yh (out:=out) (t:=(true,bn)) rfl)
     go_wp2_with fail
     go_roundw
     case rel=>exact⟨i+1,A3,k3,c3,out,by have:=HLT.out;have:=HL.out;have:=HN.out;go_num,by have:=HLT.out;have:=HL.out;omega,rfl,hown,by have:=HNX.out;rw[HEA.out,HEB.out] at this;exact this,hb⟩
     case measure=>
      have:=HLT.out
      simp[intOf]
      omega
    |false=>
     have HEA:=Hd (Yh (out:=out) (t:=(true,an)) rfl)
     have HCL2:Hid (out.length≤512):=Hd (by have:=HCL.out;have:=HN.out;omega)
     go_wp2_with fail
     have HKB:Hid (out.length=k3):=Hd (ZI ZJ (by decide) hown)
     have hrs:=Rs.of_own ZJ (by decide) hown
     obtain⟨r2,hr2⟩: ∃r,decide ((false,bn)∈out)=r:=⟨_,rfl⟩
     have HCr2:=Hd (UR A3 k3 c3 _ out false bn wr r2 hrs lR hr2)
     have Hr2:=Hd hr2
     unfold tmv at HCr2
     clear hrs hr2
     refine HCr2.out.mono ?_
     rintro e wb ⟨rfl,hv⟩
     clear HCr2
     replace hown:=ZV hown hv
     replace hb:=hb.trans (hv.mono hb.size)
     clear hv
     clear e0 e1 e2 e3
     have e0:=HE0.out _ hb
     have e1:=HE1.out _ hb
     have e2:=HE2.out _ hb
     have e3:=HE3.out _ hb
     cases r2 with
     |true=>
      have HE:=Hd (Yi Hr2.out)
      go_wp2_with fail
      go_roundw
      case rel=>exact⟨i+1,A3,k3,c3,out,by have:=HLT.out;have:=HL.out;have:=HN.out;go_num,by have:=HLT.out;have:=HL.out;omega,rfl,hown,by have:=HNX.out;rw[HEA.out] at this;rw[HE.out] at this;exact this,hb⟩
      case measure=>
       have:=HLT.out
       simp[intOf]
       omega
     |false=>
      have HE:=Hd (Yj Hr2.out)
      have hv:Below wb.heap.size wb (wb.alloc (.cells #[.bool false,.int .u64 (bn:Int)] 74)):=bA
      have ho:=Rj wb false bn
      have hown0:=ZV hown hv
      have hb0:=hb.trans (hv.mono hb.size)
      clear hv hb hown
      go_wp2_with (at_builtin;refine VW rfl (.tmp 53) (.tmp 59) rfl w.heap.size (.slice A3 k3 c3) k3 out rfl hown0 _ _ 1 1 [(false,bn)] rfl ho (by have:=HKB.out;have:=HCL2.out;have:=HN.out;omega) hb0.size ?_;intro A9 k9 c9 w9 hk9 ha9;have hb:=hb0.grown ha9.out.grown hb0.size (fun j hj=>(hown0.lt j hj).1);have hown:=ha9.out.own;clear ha9 hk9 hown0 ho hb0;clear e0 e1 e2 e3;have e0:=HE0.out _ hb;have e1:=HE1.out _ hb;have e2:=HE2.out _ hb;have e3:=HE3.out _ hb)
      go_roundw
      case rel=>exact⟨i+1,A9,k9,c9,(out++ [(false,bn)]),by have:=HLT.out;have:=HL.out;have:=HN.out;go_num,by have:=HLT.out;have:=HL.out;omega,rfl,hown,by have:=HNX.out;rw[HEA.out] at this;rw[HE.out] at this;exact this,hb⟩
      case measure=>
       have:=HLT.out
       simp[intOf]
       omega
   |false=>
    cases bv with
    |true=>
     go_wp2_with fail
     have hrs:=Rs.of_own ZJ (by decide) hown
     obtain⟨r1,hr1⟩: ∃r,decide ((false,an)∈out)=r:=⟨_,rfl⟩
     have HCr1:=Hd (UR A3 k3 c3 _ out false an wr r1 hrs lR hr1)
     have Hr1:=Hd hr1
     unfold tmv at HCr1
     clear hrs hr1
     refine HCr1.out.mono ?_
     rintro e wa ⟨rfl,hv⟩
     clear HCr1
     replace hown:=ZV hown hv
     replace hb:=hb.trans (hv.mono hb.size)
     clear hv
     clear e0 e1 e2 e3
     have e0:=HE0.out _ hb
     have e1:=HE1.out _ hb
     have e2:=HE2.out _ hb
     have e3:=HE3.out _ hb
     cases r1 with
     |true=>
      have HEA:=Hd (Yi Hr1.out)
      have HEB:=Hd (Yh (out:=out) (t:=(true,bn)) rfl)
      go_wp2_with fail
      go_roundw
      case rel=>exact⟨i+1,A3,k3,c3,out,by have:=HLT.out;have:=HL.out;have:=HN.out;go_num,by have:=HLT.out;have:=HL.out;omega,rfl,hown,by have:=HNX.out;rw[HEA.out,HEB.out] at this;exact this,hb⟩
      case measure=>
       have:=HLT.out
       simp[intOf]
       omega
     |false=>
      have HEA:=Hd (Yj Hr1.out)
      have HEB:=Hd (Yh (out:=(out++ [(false,an)])) (t:=(true,bn)) rfl)
      have hv:Below wa.heap.size wa (wa.alloc (.cells #[.bool false,.int .u64 (an:Int)] 74)):=bA
      have ho:=Rj wa false an
      have hown0:=ZV hown hv
      have hb0:=hb.trans (hv.mono hb.size)
      clear hv hb hown
      go_wp2_with (at_builtin;refine VW rfl (.tmp 28) (.tmp 34) rfl w.heap.size (.slice A3 k3 c3) k3 out rfl hown0 _ _ 1 1 [(false,an)] rfl ho (by have:=HCL.out;have:=HN.out;have:=HKL.out;omega) hb0.size ?_;intro A5 k5 c5 w5 hk9 ha9;have hb:=hb0.grown ha9.out.grown hb0.size (fun j hj=>(hown0.lt j hj).1);have hown:=ha9.out.own;clear ha9 hk9 hown0 ho hb0;clear e0 e1 e2 e3;have e0:=HE0.out _ hb;have e1:=HE1.out _ hb;have e2:=HE2.out _ hb;have e3:=HE3.out _ hb)
      go_roundw
      case rel=>exact⟨i+1,A5,k5,c5,(out++ [(false,an)]),by have:=HLT.out;have:=HL.out;have:=HN.out;go_num,by have:=HLT.out;have:=HL.out;omega,rfl,hown,by have:=HNX.out;rw[HEA.out,HEB.out] at this;exact this,hb⟩
      case measure=>
       have:=HLT.out
       simp[intOf]
       omega
    |false=>
     go_wp2_with fail
     have hrs:=Rs.of_own ZJ (by decide) hown
     obtain⟨r1,hr1⟩: ∃r,decide ((false,an)∈out)=r:=⟨_,rfl⟩
     have HCr1:=Hd (UR A3 k3 c3 _ out false an wr r1 hrs lR hr1)
     have Hr1:=Hd hr1
     unfold tmv at HCr1
     clear hrs hr1
     refine HCr1.out.mono ?_
     rintro e wa ⟨rfl,hv⟩
     clear HCr1
     replace hown:=ZV hown hv
     replace hb:=hb.trans (hv.mono hb.size)
     clear hv
     clear e0 e1 e2 e3
     have e0:=HE0.out _ hb
     have e1:=HE1.out _ hb
     have e2:=HE2.out _ hb
     have e3:=HE3.out _ hb
     cases r1 with
     |true=>
      have HEA:=Hd (Yi Hr1.out)
      have HCL2:Hid (out.length≤512):=Hd (by have:=HCL.out;have:=HN.out;omega)
      go_wp2_with fail
      have HKB:Hid (out.length=k3):=Hd (ZI ZJ (by decide) hown)
      have hrs:=Rs.of_own ZJ (by decide) hown
      obtain⟨r2,hr2⟩: ∃r,decide ((false,bn)∈out)=r:=⟨_,rfl⟩
      have HCr2:=Hd (UR A3 k3 c3 _ out false bn wa r2 hrs lR hr2)
      have Hr2:=Hd hr2
      unfold tmv at HCr2
      clear hrs hr2
      refine HCr2.out.mono ?_
      rintro e wb ⟨rfl,hv⟩
      clear HCr2
      replace hown:=ZV hown hv
      replace hb:=hb.trans (hv.mono hb.size)
      clear hv
      clear e0 e1 e2 e3
      have e0:=HE0.out _ hb
      have e1:=HE1.out _ hb
      have e2:=HE2.out _ hb
      have e3:=HE3.out _ hb
      cases r2 with
      |true=>
       have HE:=Hd (Yi Hr2.out)
       go_wp2_with fail
       go_roundw
       case rel=>exact⟨i+1,A3,k3,c3,out,by have:=HLT.out;have:=HL.out;have:=HN.out;go_num,by have:=HLT.out;have:=HL.out;omega,rfl,hown,by have:=HNX.out;rw[HEA.out] at this;rw[HE.out] at this;exact this,hb⟩
       case measure=>
        have:=HLT.out
        simp[intOf]
        omega
      |false=>
       have HE:=Hd (Yj Hr2.out)
       have hv:Below wb.heap.size wb (wb.alloc (.cells #[.bool false,.int .u64 (bn:Int)] 74)):=bA
       have ho:=Rj wb false bn
       have hown0:=ZV hown hv
       have hb0:=hb.trans (hv.mono hb.size)
       clear hv hb hown
       go_wp2_with (at_builtin;refine VW rfl (.tmp 53) (.tmp 59) rfl w.heap.size (.slice A3 k3 c3) k3 out rfl hown0 _ _ 1 1 [(false,bn)] rfl ho (by have:=HKB.out;have:=HCL2.out;have:=HN.out;omega) hb0.size ?_;intro A9 k9 c9 w9 hk9 ha9;have hb:=hb0.grown ha9.out.grown hb0.size (fun j hj=>(hown0.lt j hj).1);have hown:=ha9.out.own;clear ha9 hk9 hown0 ho hb0;clear e0 e1 e2 e3;have e0:=HE0.out _ hb;have e1:=HE1.out _ hb;have e2:=HE2.out _ hb;have e3:=HE3.out _ hb)
       go_roundw
       case rel=>exact⟨i+1,A9,k9,c9,(out++ [(false,bn)]),by have:=HLT.out;have:=HL.out;have:=HN.out;go_num,by have:=HLT.out;have:=HL.out;omega,rfl,hown,by have:=HNX.out;rw[HEA.out] at this;rw[HE.out] at this;exact this,hb⟩
       case measure=>
        have:=HLT.out
        simp[intOf]
        omega
     |false=>
      have HEA:=Hd (Yj Hr1.out)
      have HCL2:Hid ((out++ [(false,an)]).length≤513):=Hd (by have:=HCL.out;have:=HN.out;simp;omega)
      have hv:Below wa.heap.size wa (wa.alloc (.cells #[.bool false,.int .u64 (an:Int)] 74)):=bA
      have ho:=Rj wa false an
      have hown0:=ZV hown hv
      have hb0:=hb.trans (hv.mono hb.size)
      clear hv hb hown
      go_wp2_with (at_builtin;refine VW rfl (.tmp 28) (.tmp 34) rfl w.heap.size (.slice A3 k3 c3) k3 out rfl hown0 _ _ 1 1 [(false,an)] rfl ho (by have:=HCL.out;have:=HN.out;have:=HKL.out;omega) hb0.size ?_;intro A5 k5 c5 w5 hk9 ha9;have hb:=hb0.grown ha9.out.grown hb0.size (fun j hj=>(hown0.lt j hj).1);have hown:=ha9.out.own;clear ha9 hk9 hown0 ho hb0;clear e0 e1 e2 e3;have e0:=HE0.out _ hb;have e1:=HE1.out _ hb;have e2:=HE2.out _ hb;have e3:=HE3.out _ hb)
      have HKB:Hid ((out++ [(false,an)]).length=k5):=Hd (ZI ZJ (by decide) hown)
      have hrs:=Rs.of_own ZJ (by decide) hown
      obtain⟨r2,hr2⟩: ∃r,decide ((false,bn)∈(out++ [(false,an)]))=r:=⟨_,rfl⟩
      have HCr2:=Hd (UR A5 k5 c5 _ (out++ [(false,an)]) false bn w5 r2 hrs lR hr2)
      have Hr2:=Hd hr2
      unfold tmv at HCr2
      clear hrs hr2
      refine HCr2.out.mono ?_
      rintro e wb ⟨rfl,hv⟩
      clear HCr2
      replace hown:=ZV hown hv
      replace hb:=hb.trans (hv.mono hb.size)
      clear hv
      clear e0 e1 e2 e3
      have e0:=HE0.out _ hb
      have e1:=HE1.out _ hb
      have e2:=HE2.out _ hb
      have e3:=HE3.out _ hb
      cases r2 with
      |true=>
       have HE:=Hd (Yi Hr2.out)
       go_wp2_with fail
       go_roundw
       case rel=>exact⟨i+1,A5,k5,c5,(out++ [(false,an)]),by have:=HLT.out;have:=HL.out;have:=HN.out;go_num,by have:=HLT.out;have:=HL.out;omega,rfl,hown,by have:=HNX.out;rw[HEA.out] at this;rw[HE.out] at this;exact this,hb⟩
       case measure=>
        have:=HLT.out
        simp[intOf]
        omega
      |false=>
       have HE:=Hd (Yj Hr2.out)
       have hv:Below wb.heap.size wb (wb.alloc (.cells #[.bool false,.int .u64 (bn:Int)] 74)):=bA
       have ho:=Rj wb false bn
       have hown0:=ZV hown hv
       have hb0:=hb.trans (hv.mono hb.size)
       clear hv hb hown
       go_wp2_with (at_builtin;refine VW rfl (.tmp 53) (.tmp 59) rfl w.heap.size (.slice A5 k5 c5) k5 (out++ [(false,an)]) rfl hown0 _ _ 1 1 [(false,bn)] rfl ho (by have:=HKB.out;have:=HCL2.out;have:=HN.out;omega) hb0.size ?_;intro A9 k9 c9 w9 hk9 ha9;have hb:=hb0.grown ha9.out.grown hb0.size (fun j hj=>(hown0.lt j hj).1);have hown:=ha9.out.own;clear ha9 hk9 hown0 ho hb0;clear e0 e1 e2 e3;have e0:=HE0.out _ hb;have e1:=HE1.out _ hb;have e2:=HE2.out _ hb;have e3:=HE3.out _ hb)
       go_roundw
       case rel=>exact⟨i+1,A9,k9,c9,((out++ [(false,an)])++ [(false,bn)]),by have:=HLT.out;have:=HL.out;have:=HN.out;go_num,by have:=HLT.out;have:=HL.out;omega,rfl,hown,by have:=HNX.out;rw[HEA.out] at this;rw[HE.out] at this;exact this,hb⟩
       case measure=>
        have:=HLT.out
        simp[intOf]
        omega
  ·obtain rfl:i=n:=by have:=HL.out;omega
   have HCS:Hid (Consts l l.length out):=Hd (by rw[HL.out];exact hcs)
   have hrs:=Hd hown
   clear hcs hown
   go_wp2
   go_ret
   exact⟨_,_,_,out,rfl,hrs.out,HCS.out,hb⟩
end Go.Proofs.YtfmpecnkkbpdlaaGreatDoor.Bo
namespace Go.Proofs.YtfmpecnkkbpdlaaGreatDoor.Bo
open Go.RowKit
def Zlv (l:List Bd)(t:Tm)(w:World)(v5 v6:Value)(wr:World):Prop:=
 ∃(a:Nat) (A:Option Addr) (k c:Nat) (out:List Tm),v6= .int .i64 (a:Int)∧a≤out.length∧v5= .slice A k c∧wr.ownsRow w.heap.size 74 2 (.slice A k c) k (out.flatMap tmc)∧Z9 l t a 0 out∧Below w.heap.size w wr
def Zlw (l:List Bd)(t:Tm)(w:World)(a:Nat)(v5 v7:Value)(wr:World):Prop:=
 ∃(i:Nat) (A:Option Addr) (k c:Nat) (out:List Tm),v7= .int .i64 (i:Int)∧i≤l.length∧v5= .slice A k c∧a < out.length∧wr.ownsRow w.heap.size 74 2 (.slice A k c) k (out.flatMap tmc)∧Z9 l t a i out∧Below w.heap.size w wr
theorem ZhO (A:Option Addr)(n c:Nat)(l:List Bd)(v:Bool)(z:Nat)(w:World)(h:Rs bdc 4 w w.heap.size A n c l)(hf: ∀b∈l,b.Fit)(hn:l.length≤256):
  Calls Tryz.prog 193 #[.slice A n c,tmv v z] w fun e w'=> ∃A' k' c' out,e= .returned (.slice A' k' c')∧w'.ownsRow w.heap.size 74 2 (.slice A' k' c') k' (out.flatMap tmc)∧Rz l (v,z) out∧Below w.heap.size w w':=by
 have HL:=Hd h.len
 have htop:=h.top
 have hcap:=h.cap
 unfold maxLen at htop
 have HR:=Hd h
 have HF:=Hd hf
 have HN:=Hd hn
 have hal1:Below w.heap.size w (w.alloc (.cells #[.bool v,.int .u64 (z:Int)] 74)):=bA
 have hal:Below w.heap.size w ((w.alloc (.cells #[.bool v,.int .u64 (z:Int)] 74)).alloc (.cells #[.bool v,.int .u64 (z:Int)] 74)):=hal1.alloc (by simp) _
 have hsz:(w.alloc (.cells #[.bool v,.int .u64 (z:Int)] 74)).heap.size=w.heap.size+1:=by simp
 have hnew:=heap_alloc_new (w.alloc (.cells #[.bool v,.int .u64 (z:Int)] 74)) (.cells #[.bool v,.int .u64 (z:Int)] 74)
 rw[hsz] at hnew
 have HOW:=Hd (Zks (enc:=tmc) (l:= [(v,z)]) (base:=w.heap.size) (n:=1) ZJ hnew (by omega) rfl rfl (by unfold maxLen;omega))
 have HAL:=Hd hal
 clear h hf hn hal1 hal hsz hnew
 unfold tmv
 go_enter Tryz.func193,Tryz.ntmps193
 go_wp2_with fail
 obtain⟨w0,hw0⟩: ∃w0,w0=(w.alloc (.cells #[.bool v,.int .u64 (z:Int)] 74)).alloc (.cells #[.bool v,.int .u64 (z:Int)] 74):=⟨_,rfl⟩
 rw[← hw0] at HOW HAL ⊢
 clear hw0
 go_loopw [5,6] (fun v5 v6 wr=>Zlv l (v,z) w v5 v6 wr) (fun _ v6 _=>n+2 - (intOf v6).toNat)
 case atStart=>exact⟨0,_,_,_,[(v,z)],rfl,by simp,rfl,HOW.out,Z9.start l (v,z),HAL.out⟩
 case round=>
  clear HOW HAL
  obtain⟨a,A3,k3,c3,out,rfl,ha,rfl,hown,hft,hb⟩:=hrel
  have HKL:Hid (out.length=k3):=Hd (ZI ZJ (by decide) hown)
  have HFL:=Hd hft.len
  by_cases hlt:a < k3
  ·have hlt0:a < out.length:=by rw[HKL.out];exact hlt
   have HOW:=Hd hown
   have HFT:=Hd hft
   have HB:=Hd hb
   have HA0:=Hd hlt0
   have han:a < 300:=by have:=HN.out;have:=HFL.out;omega
   obtain⟨wo,rfl⟩: ∃wo,wo=wr:=⟨_,rfl⟩
   clear hown hft hb hlt0 ha
   go_wp2_with fail
   go_loopw [5,7] (fun v5 v7 wr=>Zlw l (v,z) w a v5 v7 wr) (fun _ v7 _=>n - (intOf v7).toNat)
   case atStart=>exact⟨0,A3,k3,c3,out,rfl,by omega,rfl,HA0.out,HOW.out,HFT.out,HB.out⟩
   case round=>
    clear HOW HFT HB HA0 HKL HFL
    obtain⟨i,A3,k3,c3,out,rfl,hi,rfl,hao,hown,hft,hb⟩:=hrel
    have HKL:Hid (out.length=k3):=Hd (ZI ZJ (by decide) hown)
    have HFL:=Hd hft.len
    by_cases hlt:i < n
    ·have hi':i < l.length:=by rw[HL.out];exact hlt
     obtain⟨b,o,rfl,hbb,e0,e1,e2,e3⟩:=V4 HR.out hi'
     have HSK:=Hd (hft.skip hao hi')
     have HMO:=Hd (hft.more hao hi')
     have hrs:=Rs.of_own ZJ (by decide) hown
     obtain⟨bo,oo,rfl,hbo,c0,c1⟩:=Zee hrs hao
     have hak:(a:Int) < (k3:Int):=by have:=HKL.out;omega
     generalize hy:l[i]=y at*
     obtain⟨av,an,bv,bn⟩:=y
     simp only[Bd.a,Bd.b] at e0 e1 e2 e3 HSK HMO
     have HE0:=Hd fun W (hW:Below w.heap.size w W)=>(hW.cell (p:=⟨b,o+i*4,none⟩) hbb).trans e0
     have HE1:=Hd fun W (hW:Below w.heap.size w W)=>(hW.cell (p:=⟨b,o+i*4+1,none⟩) hbb).trans e1
     have HE2:=Hd fun W (hW:Below w.heap.size w W)=>(hW.cell (p:=⟨b,o+i*4+2,none⟩) hbb).trans e2
     have HE3:=Hd fun W (hW:Below w.heap.size w W)=>(hW.cell (p:=⟨b,o+i*4+3,none⟩) hbb).trans e3
     clear e0 e1 e2 e3
     have e0:=HE0.out _ hb
     have e1:=HE1.out _ hb
     have e2:=HE2.out _ hb
     have e3:=HE3.out _ hb
     obtain⟨x,hx⟩: ∃x,x=out[a]:=⟨_,rfl⟩
     rw[← hx] at c0 c1 HSK HMO
     obtain⟨xv,xz⟩:=x
     simp only at c0 c1
     have HLT:=Hd hlt
     have HAO:=Hd hao
     clear hbb hi' hy hx hlt hft hao
     by_cases he:((av,an):Tm)=(xv,xz)
     case neg=>
      have HNX:=Hd (HSK.out fun e=>absurd e he)
      have hne:(av=xv∧((an:Int)==(xz:Int))=false)∨(av=true∧xv=false)∨(av=false∧xv=true):=by
       cases av <;> cases xv <;> simp <;> intro e2 <;> exact he (by rw[show an=xz by omega])
      clear he HSK HMO hrs
      rcases hne with⟨rfl,hq⟩|⟨rfl,rfl⟩|⟨rfl,rfl⟩
      all_goals(
       go_wp2_with fail
       go_big_quiet (fail)
       have hb:=hb.trans ((below_drewN wr nq).mono hb.size)
       have hown:=ZV hown (below_drewN wr nq)
       go_wp2_with fail
       go_roundw
       case rel=>exact⟨i+1,_,k3,c3,out,by have:=HLT.out;have:=HL.out;have:=HN.out;go_num,by have:=HLT.out;have:=HL.out;omega,rfl,HAO.out,hown,HNX.out,hb⟩
       case measure=>
        have:=HLT.out
        simp[intOf]
        omega)
     case pos=>
      injection he with he1 he2
      subst he1
      subst he2
      have HSK2:Hid (((bv,bn):Tm)∈out→Z9 l (v,z) a (i+1) out):=Hd fun hm=>HSK.out fun _=>hm
      have HMO2:Hid (¬((bv,bn):Tm)∈out→Z9 l (v,z) a (i+1) (out++ [(bv,bn)])):=Hd (HMO.out rfl)
      clear HSK HMO
      obtain⟨r,hr⟩: ∃r,decide (((bv,bn):Tm)∈out)=r:=⟨_,rfl⟩
      have HRR:=Hd hr
      clear hr
      go_wp2_with fail
      refine wro [0,1,2,3,4,5,6,7,8,9,10,11,12,13,14,15,16,17,18,19] [17] 20 (fun w'=>w'.cell? ⟨b,o+i*4,none⟩=some (.bool av)∧w'.cell? ⟨b,o+i*4+1,none⟩=some (.int .u64 (an:Int))∧w'.cell? ⟨b,o+i*4+2,none⟩=some (.bool bv)∧w'.cell? ⟨b,o+i*4+3,none⟩=some (.int .u64 (bn:Int))∧w'.cell? ⟨bo,oo+a*2,none⟩=some (.bool av)∧w'.cell? ⟨bo,oo+a*2+1,none⟩=some (.int .u64 (an:Int))) (by kernel_rfl) (fun _ _ _ _ _ h=>h) ⟨e0,e1,e2,e3,c0,c1⟩ ?_
      simp only[steps,sE,sD]
      repeat((first|refine Zg rfl ?_|(refine Zf (v:= ?_) rfl rfl ?_ ?_;rotate_left;(focus(rintro w' ⟨hS0,hS1,hS2,hS3,hS4,hS5⟩;go_simp;try with_reducible rfl))));simp only[Act.put,sA,sB,sC])
      have hv:Below wr.heap.size wr wr.drew:=(Below.refl _ _).drew
      replace c0:=Zc c0 hv
      replace c1:=Zc c1 hv
      replace hown:=ZV hown hv
      replace hb:=hb.trans (hv.mono hb.size)
      clear hv hrs e0 e1 e2 e3
      have e0:=HE0.out _ hb
      have e1:=HE1.out _ hb
      have e2:=HE2.out _ hb
      have e3:=HE3.out _ hb
      generalize wr.drew=w5 at*
      refine Ze rfl rfl (fun K hK=> ?_)
      go_simp
      have hrs:=Rs.of_own ZJ (by decide) hown
      have HC:=Hd (UR _ k3 c3 _ out bv bn w5 r hrs lR HRR.out)
      unfold tmv at HC
      refine HC.out.mono ?_
      rintro e w6 ⟨rfl,hv⟩
      replace c0:=Zc c0 hv
      replace c1:=Zc c1 hv
      replace hown:=ZV hown hv
      replace hb:=hb.trans (hv.mono hb.size)
      clear hv hrs e0 e1 e2 e3 HC
      have e0:=HE0.out _ hb
      have e1:=HE1.out _ hb
      have e2:=HE2.out _ hb
      have e3:=HE3.out _ hb
      refine hK.out _ _ (fun _=>⟨e0,e1,e2,e3,c0,c1⟩) ?_
      clear hK K
      try simp only[Act.put,sA,sB,sC]
      cases r with
      |true=>
       have HNX:=Hd (HSK2.out (of_decide_eq_true HRR.out))
       repeat((first|refine Zg rfl ?_|(refine Zf (v:= ?_) rfl rfl ?_ ?_;rotate_left;(focus(rintro w' ⟨hS0,hS1,hS2,hS3,hS4,hS5⟩;go_simp;try with_reducible rfl))));simp only[Act.put,sA,sB,sC])
       refine Zi ?_
       clear HSK2 HMO2 c0 c1 hbo
       go_wp2_with fail
       go_roundw
       case rel=>exact⟨i+1,_,k3,c3,out,by have:=HLT.out;have:=HL.out;have:=HN.out;go_num,by have:=HLT.out;have:=HL.out;omega,rfl,HAO.out,hown,HNX.out,hb⟩
       case measure=>
        have:=HLT.out
        simp[intOf]
        omega
      |false=>
       have HNX:=Hd (HMO2.out (of_decide_eq_false HRR.out))
       repeat((first|refine Zg rfl ?_|(refine Zf (v:= ?_) rfl rfl ?_ ?_;rotate_left;(focus(rintro w' ⟨hS0,hS1,hS2,hS3,hS4,hS5⟩;go_simp;try with_reducible rfl))));simp only[Act.put,sA,sB,sC])
       refine Zi ?_
       clear HSK2 HMO2 c0 c1 hbo
       have hv:Below w6.heap.size w6 (w6.alloc (.cells #[.bool bv,.int .u64 (bn:Int)] 74)):=bA
       have ho:=Rj w6 bv bn
       have hown0:=ZV hown hv
       have hb0:=hb.trans (hv.mono hb.size)
       clear hv hb hown
       go_wp2_with (at_builtin;refine VW rfl (.tmp 42) (.tmp 48) rfl w.heap.size (.slice (some ⟨bo,oo,none⟩) k3 c3) k3 out rfl hown0 _ _ 1 1 [(bv,bn)] rfl ho (by have:=HKL.out;have:=HFL.out;have:=HN.out;omega) hb0.size ?_;intro A9 k9 c9 w9 hk9 ha9;have hb:=hb0.grown ha9.out.grown hb0.size (fun j hj=>(hown0.lt j hj).1);have hown:=ha9.out.own;clear ha9 hk9 hown0 ho hb0)
       go_roundw
       case rel=>exact⟨i+1,A9,k9,c9,(out++ [(bv,bn)]),by have:=HLT.out;have:=HL.out;have:=HN.out;go_num,by have:=HLT.out;have:=HL.out;omega,rfl,by have:=HAO.out;simp;omega,hown,HNX.out,hb⟩
       case measure=>
        have:=HLT.out
        simp[intOf]
        omega
    ·obtain rfl:i=n:=by have:=HL.out;omega
     have HNX:Hid (Z9 l (v,z) (a+1) 0 out):=Hd (hft.next hao (by rw[HL.out]))
     have HAO:=Hd hao
     clear hft hlt hi
     go_wp2_with fail
     go_roundw
     case rel=>exact⟨a+1,A3,k3,c3,out,by go_num,HAO.out,rfl,hown,HNX.out,hb⟩
     case measure=>
      simp[intOf]
      have:=HFL.out
      have:=HL.out
      have:=HAO.out
      omega
  ·have HE:Hid (Rz l (v,z) out):=Hd (by
    obtain rfl:a=out.length:=by have:=HKL.out;omega
    exact hft.end)
   have hrs:=Hd hown
   clear hft hown
   go_wp2_with fail
   go_ret
   exact⟨_,_,_,out,rfl,hrs.out,HE.out,hb⟩
end Go.Proofs.YtfmpecnkkbpdlaaGreatDoor.Bo
