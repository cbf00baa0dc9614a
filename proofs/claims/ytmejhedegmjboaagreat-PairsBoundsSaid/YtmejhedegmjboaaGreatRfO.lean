import Derived.Test.YtmejhedegmjboaaGreatLiv
import Derived.Test.YtmejhedegmjboaaGreatRfA
import Derived.Test.YtmejhedegmjboaaGreatRfL
set_option maxRecDepth 100000
set_option maxHeartbeats 8000000
namespace Go.Proofs.YtmejhedegmjboaaGreat.I
open Go.RowKit
theorem Zfs {z:Sen}{i k:Nat}(hk:k < i)(h:AlD z k i)(hn: ∀j < k,¬AlD z j i):first z i=k:=by
 rcases h with h|⟨h1,h2,h3⟩
 ·omega
 ·exact YX (Vl h2) ⟨Nat.le_of_lt hk,h1,h3,fun j hj ho hl=>hn j hj (.inr ⟨ho,h2,hl⟩)⟩
theorem Zd1 {z:Sen}{i:Nat}(hn: ∀j < i,¬AlD z j i):first z i=i:=by
 by_cases ho:okA z i=true
 ·exact YY fun j hj h1 hl=>hn j hj (.inr ⟨h1,ho,hl⟩)
 ·exact KQ (by simpa using ho)
theorem ZcY {w:World}{base E n g:Nat}{v:Value}{xs:List Value}{sz:Nat}(h:w.ownsRow base E sz v n xs)(e:v.ownBlock=some g): ∃cur,w.heap[g]?=some (.cells cur E (0,0)):=by
 rcases h.2 with⟨hv,_⟩|⟨g',cap,cur,rfl,hb,hg,r⟩
 ·rw[hv] at e;cases e
 ·have e':g'=g:=by simpa [Value.ownBlock] using e
  exact⟨cur,e'▸hg⟩
theorem Zkl:(Tryz.prog.info? 3).map (fun i=>(i.zero,i.size,i.bytes))=some (some (.int .i64 0),1,8):=by kernel_rfl
theorem Zft (x:Nat):(nmI x).oneCell'=true:=rfl
theorem Zfu (w:World)(k:Nat):Rd nmI (w.alloc (.cells #[.int .i64 (k:Int)] 3)) (w.alloc (.cells #[.int .i64 (k:Int)] 3)).heap.size (some ⟨w.heap.size,0,none⟩) 1 1 [k]:=Rd.new w #[.int .i64 (k:Int)] 3 1 [k] rfl rfl (by decide)
theorem Yj {α:Type}{enc:α→Value}{E:TypeId}{w W V:World}{A:Option Addr}{n c:Nat}{l:List α}(h:Fresh enc E w W A n c l)(hb:Below W.heap.size W V):Fresh enc E w V A n c l:=⟨Zi h.own hb,h.bel.trans (hb.mono h.bel.size)⟩
theorem ZlJ (z:Sen)(A1:Option Addr)(n1 c1:Nat)(A2:Option Addr)(n2 c2:Nat)(A3:Option Addr)(n3 c3:Nat)(A4:Option Addr)(n4 c4:Nat)(w:World)(h:Zx w z A1 n1 c1 A2 n2 c2 A3 n3 c3 A4 n4 c4)(hn:n1≤1000):
  Calls Tryz.prog 63 #[senV A1 n1 c1 A2 n2 c2 A3 n3 c3 A4 n4 c4] w fun e w'=> ∃A n c,e= .returned (.slice A n c)∧Rd nmI w' w'.heap.size A n c (alF z)∧Below w.heap.size w w':=by
 obtain⟨r,hr⟩: ∃r,Zn z=r:=⟨_,rfl⟩
 have HR:=Hd hr
 have HSW:Hid (∀W,Below w.heap.size w W→Zx W z A1 n1 c1 A2 n2 c2 A3 n3 c3 A4 n4 c4):=Hd fun W hW=>h.keep hW
 have hwh:=fun W (hW:Below w.heap.size w W)=>YC A1 n1 c1 A2 n2 c2 A3 n3 c3 A4 n4 c4 z W (h.keep hW) (by omega) r hr
 have HWH:=Hd hwh
 have HN:=Hd hn
 have HLEN:=Hd h.rp.len
 have hx0:=heap_alloc_new w (.cells #[.slice A1 n1 c1,.slice A2 n2 c2,.slice A3 n3 c3,.slice A4 n4 c4] 28)
 have hz0:=ZB.of hx0
 have hb0:Below w.heap.size w (w.alloc (.cells #[.slice A1 n1 c1,.slice A2 n2 c2,.slice A3 n3 c3,.slice A4 n4 c4] 28)):=bA
 have HX0:=Hd hx0
 have HB0:=Hd hb0
 have y0:=hz0.p0
 have y1:=hz0.p1
 have y2:=hz0.p2
 have y3:=hz0.p3
 clear hwh hr h hn hz0 hb0 hx0
 unfold senV at HWH ⊢
 cases r with
 |false=>(
 go_enter Tryz.func63,Tryz.ntmps63
 go_wp2_with fail
 refine(HWH.out _ HB0.out).mono ?_
 rintro e w1 ⟨rfl,hv⟩
 have HB1:=Hd (HB0.out.trans (hv.mono HB0.out.size))
 clear hv HWH y0 y1 y2 y3
 go_wp2_with fail
 go_ret
 refine⟨none,0,0,rfl,?_,HB1.out⟩
 unfold alF
 rw[HR.out]
 exact Rd.nil _ _)
 |true=>(
 obtain⟨i0,hi0,hz0,hz1,hz2⟩:=info_parts Zkl
 go_enter Tryz.func63,Tryz.ntmps63
 go_wp2_with fail
 refine(HWH.out _ HB0.out).mono ?_
 rintro e w1 ⟨rfl,hv⟩
 have HB1:=Hd (HB0.out.trans (hv.mono HB0.out.size))
 have HX1:=Hd ((hv.block _ (Zh HX0.out)).trans HX0.out)
 clear hv HWH y0 y1 y2 y3 HB0 HX0
 generalize w.alloc (.cells #[.slice A1 n1 c1,.slice A2 n2 c2,.slice A3 n3 c3,.slice A4 n4 c4] 28)=wa at*
 go_wp2_with fail
 go_loopw [3,4] (fun v3 v4 wr=> ∃(i:Nat) (A:Option Addr) (m c:Nat),v4= .int .i64 (i:Int)∧i≤n1∧v3= .slice A m c∧Fresh nmI 3 w wr A m c ((List.range i).map (first z))∧wr.heap[w.heap.size]?=some (.cells #[.slice A1 n1 c1,.slice A2 n2 c2,.slice A3 n3 c3,.slice A4 n4 c4] 28 (0,0))) (fun _ v4 _=>n1 - (intOf v4).toNat)
 case atStart=>exact⟨0,none,0,0,rfl,Nat.zero_le _,rfl,⟨World.ownsRow_nil _ _ _ _,HB1.out⟩,HX1.out⟩
 case round=>(
 clear HB1 HX1
 obtain⟨i,A,m,c,rfl,hi,rfl,hfr,hbx⟩:=hrel
 have hzb:=ZB.of hbx
 by_cases hlt:i < n1
 ·(
 obtain⟨p0,o0,p1,o1,p2,o2,p4,o4,rfl,rfl,rfl,rfl,q2,q3,q4,hL,hsd,hcl⟩:=Zgc (HSW.out wr hfr.bel) HR.out (by omega)
 obtain rfl:n1=n2:=q2.symm
 obtain rfl:n1=n3:=q3.symm
 obtain rfl:n1=n4:=q4.symm
 have HL:=Hd hL
 have HCA:Hid (∀W,Below wr.heap.size wr W→ ∀k,k < i→Calls Tryz.prog 106 #[.agg #[.slice (some ⟨p0,o0,none⟩) n1 c1,.slice (some ⟨p1,o1,none⟩) n1 c2,.slice (some ⟨p2,o2,none⟩) n1 c3,.slice (some ⟨p4,o4,none⟩) n1 c4],.int .i64 (k:Int),.int .i64 (i:Int)] W fun e w'=>(∃r:Bool,e= .returned (.bool r)∧(r=true↔AlD z k i))∧Below W.heap.size W w'):=Hd fun W hW k hk=>Zgo z n1 c1 c2 c3 c4 p0 o0 p1 o1 p2 o2 p4 o4 k i W (hcl.keep hW) hL hsd HN.out (by omega) hlt
 have hlen:=hfr.len
 rw[List.length_map,List.length_range] at hlen
 have HNB:Hid (some w.heap.size≠(Value.slice A m c).ownBlock):=Hd fun e=>by(
 obtain⟨cur,hc⟩:=ZcY hfr.own e.symm
 rw[hbx] at hc
 injection hc with hc
 injection hc with _ hc
 exact absurd hc (by decide))
 obtain⟨ks,hks⟩: ∃ks,(List.range i).map (first z)=ks:=⟨_,rfl⟩
 rw[hks] at hfr
 have HKS:=Hd hks
 have HFR:=Hd hfr
 have HZB:=Hd hzb
 have HBX:=Hd hbx
 have HLT:=Hd hlt
 have HM:=Hd hlen
 have hin:(i:Int) < (n1:Int):=by omega
 have z0:=hzb.p0
 have hi9:i≤1000:=by have:=HN.out;omega
 clear hlen hks hfr hzb hlt hi hcl hsd hL hbx
 go_wp2_with fail
 clear z0
 obtain⟨wo,rfl⟩: ∃wo,wo=wr:=⟨_,rfl⟩
 go_loopw [5] (fun v5 wq=> ∃k:Nat,v5= .int .i64 (k:Int)∧k≤i∧(∀j < k,¬AlD z j i)∧Below wo.heap.size wo wq) (fun v5 _=>i - (intOf v5).toNat)
 case atStart=>exact⟨0,rfl,Nat.zero_le _,(fun j hj=>absurd hj (Nat.not_lt_zero j)),Below.refl _ _⟩
 case round=>(
 obtain⟨k,rfl,hk,hno,hb⟩:=hrel
 have HNO:=Hd hno
 have hzq:=HZB.out.keep hb
 have z0:=hzq.p0
 have z1:=hzq.p1
 have z2:=hzq.p2
 have z3:=hzq.p3
 have HBQ:=Hd hb
 have hk9:k≤1000:=by omega
 clear hno hzq hb
 by_cases hki:k < i
 ·(
 have HKI:=Hd hki
 have hki':(k:Int) < (i:Int):=by omega
 have hca:=HCA.out wr HBQ.out k hki
 have HC:=Hd hca
 clear hca hki hk
 go_wp2_with fail
 refine HC.out.mono ?_
 rintro e w5 ⟨⟨r,rfl,hr⟩,hv⟩
 have HB5:=Hd (HBQ.out.trans (hv.mono HBQ.out.size))
 have HRR:=Hd hr
 clear hv hr HC z0 z1 z2 z3
 cases r with
 |false=>(
 go_wp2_with fail
 go_roundw
 case rel=>exact⟨k+1,by go_num,HKI.out,(fun j hj=>by
  by_cases ej:j=k
  ·subst ej;exact fun h=>absurd (HRR.out.2 h) (by decide)
  ·exact HNO.out j (by omega)),HB5.out⟩
 case measure=>(
 have:=HKI.out
 simp[intOf]
 omega))
 |true=>(
 have HFI:Hid (first z i=k):=Hd (Zfs HKI.out (HRR.out.1 rfl) HNO.out)
 have o1:=Zfu w5 k
 have hfr:=Yj HFR.out HB5.out
 go_wp2_with (at_builtin;refine ZA _ rfl (.tmp 28) (.tmp 30) 82 rfl w.heap.size 3 i0 (.int .i64 0) 8 Tryz.underlying82 hi0 hz0 hz1 hz2 rfl Zft (.slice A m c) m ks rfl (hfr.own.alloc _) _ _ 1 1 [k] rfl o1 (by have:=HM.out;unfold maxLen;omega) (by have:=HM.out;omega) (by have:=hfr.bel.size;simp;omega) ?_;intro A2 k2 c2 w2 hk2 own2 hg2 ha2)
 go_roundw
 case rel=>exact⟨i+1,A2,k2,c2,by go_num,HLT.out,rfl,by
  rw[List.range_succ,List.map_append,HKS.out,List.map_singleton,HFI.out]
  exact⟨own2,(hfr.bel.alloc hfr.bel.size _).grown hg2 (Nat.le_trans hfr.bel.size (by simp)) (fun j hj=>(hfr.own.lt j hj).1)⟩,by
  have hbx:=(HB5.out.block _ (Zh HBX.out)).trans HBX.out
  have hal:Below w5.heap.size w5 (w5.alloc (.cells #[.int .i64 (k:Int)] 3)):=bA
  have hbx2:=(hal.block _ (Zh hbx)).trans hbx
  exact(hg2.block _ (Zh hbx2) HNB.out).trans hbx2⟩
 case measure=>(
 have:=HLT.out
 simp[intOf]
 omega)))
 ·(
 obtain rfl:i=k:=by omega
 have HFI:Hid (first z i=i):=Hd (Zd1 HNO.out)
 have HB5:=HBQ
 clear hki hk
 have o1:=Zfu wr i
 have hfr:=Yj HFR.out HB5.out
 go_wp2_with (at_builtin;refine ZA _ rfl (.tmp 28) (.tmp 30) 82 rfl w.heap.size 3 i0 (.int .i64 0) 8 Tryz.underlying82 hi0 hz0 hz1 hz2 rfl Zft (.slice A m c) m ks rfl (hfr.own.alloc _) _ _ 1 1 [i] rfl o1 (by have:=HM.out;unfold maxLen;omega) (by have:=HM.out;omega) (by have:=hfr.bel.size;simp;omega) ?_;intro A2 k2 c2 w2 hk2 own2 hg2 ha2)
 go_roundw
 case rel=>exact⟨i+1,A2,k2,c2,by go_num,HLT.out,rfl,by
  rw[List.range_succ,List.map_append,HKS.out,List.map_singleton,HFI.out]
  exact⟨own2,(hfr.bel.alloc hfr.bel.size _).grown hg2 (Nat.le_trans hfr.bel.size (by simp)) (fun j hj=>(hfr.own.lt j hj).1)⟩,by
  have hbx:=(HB5.out.block _ (Zh HBX.out)).trans HBX.out
  have hal:Below wr.heap.size wr (wr.alloc (.cells #[.int .i64 (i:Int)] 3)):=bA
  have hbx2:=(hal.block _ (Zh hbx)).trans hbx
  exact(hg2.block _ (Zh hbx2) HNB.out).trans hbx2⟩
 case measure=>(
 have:=HLT.out
 simp[intOf]
 omega))))
 ·(
 obtain rfl:n1=i:=by omega
 have HFR:=Hd hfr
 have z0:=hzb.p0
 clear hfr hzb hlt hi hbx
 go_wp2_with fail
 go_ret
 refine⟨A,m,c,rfl,?_,HFR.out.bel⟩
 unfold alF
 rw[if_pos HR.out,HLEN.out]
 exact HFR.out.rd)))
end Go.Proofs.YtmejhedegmjboaaGreat.I
