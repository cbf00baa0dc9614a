import Derived.Test.YtphklakjadchmaaGreatDoorOpd
import Derived.Test.YtphklakjadchmaaGreatDoorPutA
import Derived.Test.YtphklakjadchmaaGreatDoorRfA
import Derived.Test.YtphklakjadchmaaGreatDoorRwO
import Derived.Test.YtphklakjadchmaaGreatDoorSiA
namespace Go.Proofs.YtphklakjadchmaaGreatDoor.I
open Go.RowKit
structure SmallS (z:Sen)(n1 n2 n3 n4:Nat):Prop where
 p:n1≤80
 lo:n2≤200
 hi:n3≤200
 be:n4≤200
 row: ∀r∈z.be,r.length≤200
set_option maxRecDepth 100000 in
set_option maxHeartbeats 2000000 in
theorem greatS_any (A1:Option Addr)(n1 c1:Nat)(A2:Option Addr)(n2 c2:Nat)(A3:Option Addr)(n3 c3:Nat)(A4:Option Addr)(n4 c4:Nat)(z:Sen)(w:World)(h:SenAt w z A1 n1 c1 A2 n2 c2 A3 n3 c3 A4 n4 c4):
  Calls Tryz.prog 4 #[senV A1 n1 c1 A2 n2 c2 A3 n3 c3 A4 n4 c4] w fun e w'=>TellsB e (fun r=>r=false→SmallS z n1 n2 n3 n4)∧Below w.heap.size w w':=by
 unfold senV
 have hal:Below w.heap.size w (w.alloc (.cells #[.slice A1 n1 c1,.slice A2 n2 c2,.slice A3 n3 c3,.slice A4 n4 c4] 28)):=(Below.refl _ _).alloc (Nat.le_refl _) _
 have hz:=B4.blk (heap_alloc_new w (.cells #[.slice A1 n1 c1,.slice A2 n2 c2,.slice A3 n3 c3,.slice A4 n4 c4] 28))
 have p0:=hz.p0
 have p1:=hz.p1
 have p2:=hz.p2
 have p3:=hz.p3
 have no: ∀{P:Prop},(true=false→P):=fun e=>by cases e
 have HB:=Lib.hid hal
 have HZ:=Lib.hid hz
 have HR:=Lib.hid (h.keep hal).rb
 have HL:=Lib.hid h.rb.len
 clear hal hz h
 by_cases g0:(80:Int) < (n1:Int)
 ·go_enter Tryz.func4,Tryz.ntmps4
  go_wp2
  go_ret
  exact⟨.mk true rfl no,HB.out⟩
 by_cases g1:(200:Int) < (n2:Int)
 ·go_enter Tryz.func4,Tryz.ntmps4
  go_wp2
  go_ret
  exact⟨.mk true rfl no,HB.out⟩
 by_cases g2:(200:Int) < (n3:Int)
 ·go_enter Tryz.func4,Tryz.ntmps4
  go_wp2
  go_ret
  exact⟨.mk true rfl no,HB.out⟩
 by_cases g3:(200:Int) < (n4:Int)
 ·go_enter Tryz.func4,Tryz.ntmps4
  go_wp2
  go_ret
  exact⟨.mk true rfl no,HB.out⟩
 have HN:=Lib.hid (show n1≤80∧n2≤200∧n3≤200∧n4≤200 by omega)
 clear no
 go_enter Tryz.func4,Tryz.ntmps4
 go_wp2_with fail
 clear g0 g1 g2 g3 p0 p1 p2 p3
 obtain⟨x,hx⟩: ∃x,w.alloc (.cells #[.slice A1 n1 c1,.slice A2 n2 c2,.slice A3 n3 c3,.slice A4 n4 c4] 28)=x:=⟨_,rfl⟩
 rw[hx] at HB HZ HR ⊢
 clear hx
 go_loopw [3] (fun v3 wr=> ∃i:Nat,v3= .int .i64 (i:Int)∧i≤n4∧wr=x∧ ∀j (h:j < z.be.length),j < i→z.be[j].length≤200) (fun v3 _=>n4 - (intOf v3).toNat)
 case atStart=>exact⟨0,rfl,Nat.zero_le _,rfl,fun j _ h=>absurd h (Nat.not_lt_zero j)⟩
 case round=>
  obtain⟨i,rfl,hi,rfl,hall⟩:=hrel
  have p3:=HZ.out.p3
  by_cases hlt:i < n4
  ·have hi':i < z.be.length:=by rw[HL.out];exact hlt
   obtain⟨b,o,A',n',c',rfl,-,hc,hrd⟩:=HR.out.row hi'
   have HA:=Lib.hid hall
   have HN':=Lib.hid hrd.len
   have hin:(i:Int) < (n4:Int):=by omega
   have HLT:Hid (n4=i+1+(n4 - (i+1))):=Lib.hid (by omega)
   have hib:i≤100000:=by have:=HN.out;omega
   clear hall hrd hlt hi
   by_cases hg:(200:Int) < (n':Int)
   ·go_wp2_with fail
    go_ret
    exact⟨.mk true rfl (fun e=>by cases e),HB.out⟩
   ·have HS:=Lib.hid (show n'≤200 by omega)
    go_wp2_with fail
    clear p3 hc hin hg
    go_roundw
    case rel=>exact⟨i+1,by go_num,by have:=HLT.out;omega,(by first|rfl|trivial),fun j hj hji=>by
     by_cases e:j=i
     ·subst e;rw[HN'.out];exact HS.out
     ·exact HA.out j hj (by omega)⟩
    case measure=>
     have:=HLT.out
     simp[intOf]
     omega
  ·obtain rfl:i=n4:=by omega
   have HA:=Lib.hid hall
   clear hall hlt
   go_wp2_with fail
   go_ret
   exact⟨.mk false rfl fun _=>⟨HN.out.1,HN.out.2.1,HN.out.2.2.1,HN.out.2.2.2,fun r hr=>by
    obtain⟨j,hj,rfl⟩:=List.mem_iff_getElem.1 hr
    exact HA.out j hj (by rw[← HL.out];exact hj)⟩,HB.out⟩
set_option maxRecDepth 100000 in
set_option maxHeartbeats 4000000 in
theorem wholeR_any (A1:Option Addr)(n1 c1:Nat)(A2:Option Addr)(n2 c2:Nat)(A3:Option Addr)(n3 c3:Nat)(A4:Option Addr)(n4 c4:Nat)(z:Sen)(w:World)(h:SenAt w z A1 n1 c1 A2 n2 c2 A3 n3 c3 A4 n4 c4)(hn:n1≤100000)(r:Bool)(hr:wholeS z=r):
  Calls Tryz.prog 35 #[senV A1 n1 c1 A2 n2 c2 A3 n3 c3 A4 n4 c4] w fun e w'=>e= .returned (.bool r)∧Below w.heap.size w w':=by
 unfold senV
 have hal:Below w.heap.size w (w.alloc (.cells #[.slice A1 n1 c1,.slice A2 n2 c2,.slice A3 n3 c3,.slice A4 n4 c4] 28)):=(Below.refl _ _).alloc (Nat.le_refl _) _
 have hz:=B4.blk (heap_alloc_new w (.cells #[.slice A1 n1 c1,.slice A2 n2 c2,.slice A3 n3 c3,.slice A4 n4 c4] 28))
 have p0:=hz.p0
 have p1:=hz.p1
 have p2:=hz.p2
 have p3:=hz.p3
 have HB:=Lib.hid hal
 have HZ:=Lib.hid hz
 have HS:=Lib.hid (h.keep hal)
 have HN:=Lib.hid hn
 have e1:=h.rp.len
 have e2:=h.rl.len
 have e3:=h.rh.len
 have e4:=h.rb.len
 have HIF:Hid (r=true↔n2=n1∧n3=n1∧n4=n1∧(∀p∈z.p,p.s≤2)∧ ∀x∈z.be,x.length=n1):=Lib.hid (by rw[← hr,whole_iff,e1,e2,e3,e4])
 have HE1:=Lib.hid e1
 have HE4:=Lib.hid e4
 have no:(¬(n2=n1∧n3=n1∧n4=n1))→r=false:=fun hne=>by
  cases r with
  |false=>rfl
  |true=>exact absurd ⟨(HIF.out.1 rfl).1,(HIF.out.1 rfl).2.1,(HIF.out.1 rfl).2.2.1⟩ hne
 clear hal hz h hr e1 e2 e3 e4 hn
 by_cases g1:n2=n1
 case neg=>
  obtain rfl:r=false:=no fun k=>g1 k.1
  have hne:((n2:Int) !=(n1:Int))=true:=by rw[int_ne,decide_eq_false g1];rfl
  clear no HIF g1
  go_enter Tryz.func35,Tryz.ntmps35
  go_wp2
  go_ret
  exact⟨rfl,HB.out⟩
 by_cases g2:n3=n1
 case neg=>
  obtain rfl:r=false:=no fun k=>g2 k.2.1
  have hne:((n3:Int) !=(n1:Int))=true:=by rw[int_ne,decide_eq_false g2];rfl
  have hne1:((n2:Int) !=(n1:Int))=false:=by rw[int_ne,decide_eq_true g1];rfl
  clear no HIF g2 g1
  go_enter Tryz.func35,Tryz.ntmps35
  go_wp2
  go_ret
  exact⟨rfl,HB.out⟩
 by_cases g3:n4=n1
 case neg=>
  obtain rfl:r=false:=no fun k=>g3 k.2.2
  have hne:((n4:Int) !=(n1:Int))=true:=by rw[int_ne,decide_eq_false g3];rfl
  have hne1:((n2:Int) !=(n1:Int))=false:=by rw[int_ne,decide_eq_true g1];rfl
  have hne2:((n3:Int) !=(n1:Int))=false:=by rw[int_ne,decide_eq_true g2];rfl
  clear no HIF g3 g2 g1
  go_enter Tryz.func35,Tryz.ntmps35
  go_wp2
  go_ret
  exact⟨rfl,HB.out⟩
 obtain rfl:n2=n1:=g1
 obtain rfl:n3=n2:=g2
 obtain rfl:n4=n3:=g3
 have HIF2:Hid (r=true↔(∀p∈z.p,p.s≤2)∧ ∀x∈z.be,x.length=n4):=Lib.hid ⟨fun e=>(HIF.out.1 e).2.2.2,fun e=>HIF.out.2 ⟨rfl,rfl,rfl,e⟩⟩
 have hne:((n4:Int) !=(n4:Int))=false:=by rw[int_ne];simp
 clear no HIF
 go_enter Tryz.func35,Tryz.ntmps35
 go_wp2_with fail
 clear p0 p1 p2 p3 hne
 obtain⟨x,hx⟩: ∃x,w.alloc (.cells #[.slice A1 n4 c1,.slice A2 n4 c2,.slice A3 n4 c3,.slice A4 n4 c4] 28)=x:=⟨_,rfl⟩
 rw[hx] at HB HZ HS ⊢
 clear hx
 go_loopw [4] (fun v4 wr=> ∃i:Nat,v4= .int .i64 (i:Int)∧i≤n4∧wr=x∧(∀j (h:j < z.p.length),j < i→z.p[j].s≤2)∧ ∀j (h:j < z.be.length),j < i→z.be[j].length=n4) (fun v4 _=>n4 - (intOf v4).toNat)
 case atStart=>exact⟨0,rfl,Nat.zero_le _,rfl,(fun j _ h=>absurd h (Nat.not_lt_zero j)),fun j _ h=>absurd h (Nat.not_lt_zero j)⟩
 case round=>
  obtain⟨i,rfl,hi,rfl,ha1,ha2⟩:=hrel
  by_cases hlt:i < n4
  ·have hi1:i < z.p.length:=by rw[HE1.out];exact hlt
   have hi2:i < z.be.length:=by rw[HE4.out];exact hlt
   obtain⟨b1,o1,rfl,-,-,-,hs,-,-⟩:=spot_at HS.out.rp hi1
   obtain⟨b,o,A',n',c',rfl,-,hc,hrd⟩:=HS.out.rb.row hi2
   have HA1:=Lib.hid ha1
   have HA2:=Lib.hid ha2
   have HN':=Lib.hid hrd.len
   have HSS:Hid (∃s,s=z.p[i].s):=Lib.hid ⟨_,rfl⟩
   have HSP:=Lib.hid (show z.p[i].s=z.p[i].s from rfl)
   have p0:=HZ.out.p0
   have p3:=HZ.out.p3
   have hin:(i:Int) < (n4:Int):=by omega
   have HLT:Hid (n4=i+1+(n4 - (i+1))):=Lib.hid (by omega)
   have hib:i≤100000:=by have:=HN.out;omega
   obtain⟨s,hse⟩: ∃s,z.p[i].s=s:=⟨_,rfl⟩
   rw[hse] at hs
   have HSE:=Lib.hid hse
   clear ha1 ha2 hrd hlt hi hse HSS HSP
   by_cases hg:(2:Int) < (s:Int)
   ·obtain rfl:r=false:=by
     cases r with
     |false=>rfl
     |true=>
      have:=(HIF2.out.1 rfl).1 _ (List.getElem_mem hi1)
      rw[HSE.out] at this
      omega
    go_wp2_with fail
    go_ret
    exact⟨rfl,HB.out⟩
   by_cases hm:n'=n4
   case neg=>
    have hne:((n':Int) !=(n4:Int))=true:=by rw[int_ne,decide_eq_false hm];rfl
    obtain rfl:r=false:=by
     cases r with
     |false=>rfl
     |true=>
      have:=(HIF2.out.1 rfl).2 _ (List.getElem_mem hi2)
      rw[HN'.out] at this
      exact absurd this hm
    clear hm
    go_wp2_with fail
    go_ret
    exact⟨rfl,HB.out⟩
   have hne:((n':Int) !=(n4:Int))=false:=by rw[int_ne,decide_eq_true hm];rfl
   have HM:=Lib.hid hm
   have HS2:=Lib.hid (show s≤2 by omega)
   clear hm
   go_wp2_with fail
   clear p0 p3 hc hs hin hg hne
   go_roundw
   case rel=>exact⟨i+1,by go_num,by have:=HLT.out;omega,(by first|rfl|trivial),(fun j hj hji=>by
     by_cases e:j=i
     ·subst e;rw[HSE.out];exact HS2.out
     ·exact HA1.out j hj (by omega)),fun j hj hji=>by
     by_cases e:j=i
     ·subst e;rw[HN'.out];exact HM.out
     ·exact HA2.out j hj (by omega)⟩
   case measure=>
    have:=HLT.out
    simp[intOf]
    omega
  ·obtain rfl:i=n4:=by omega
   obtain rfl:r=true:=HIF2.out.2 ⟨fun p hp=>by
    obtain⟨j,hj,rfl⟩:=List.mem_iff_getElem.1 hp
    exact ha1 j hj (by rw[← HE1.out];exact hj),fun q hq=>by
    obtain⟨j,hj,rfl⟩:=List.mem_iff_getElem.1 hq
    exact ha2 j hj (by rw[← HE4.out];exact hj)⟩
   clear ha1 ha2 hlt
   go_wp2_with fail
   go_ret
   exact⟨rfl,HB.out⟩
end Go.Proofs.YtphklakjadchmaaGreatDoor.I
namespace Go.Proofs.YtphklakjadchmaaGreatDoor.I
open Go.RowKit
theorem first_hit {z:Sen}{i k:Nat}(hk:k < i)(h:AlD z k i)(hn: ∀j < k,¬AlD z j i):first z i=k:=by
 rcases h with h|⟨h1,h2,h3⟩
 ·omega
 ·exact first_uniq (first_is h2) ⟨Nat.le_of_lt hk,h1,h3,fun j hj ho hl=>hn j hj (.inr ⟨ho,h2,hl⟩)⟩
theorem first_miss {z:Sen}{i:Nat}(hn: ∀j < i,¬AlD z j i):first z i=i:=by
 by_cases ho:okA z i=true
 ·exact first_self fun j hj h1 hl=>hn j hj (.inr ⟨h1,ho,hl⟩)
 ·exact first_no (by simpa using ho)
theorem own_ty {w:World}{base E n g:Nat}{v:Value}{xs:List Value}{sz:Nat}(h:w.ownsRow base E sz v n xs)(e:v.ownBlock=some g): ∃cur,w.heap[g]?=some (.cells cur E (0,0)):=by
 rcases h.2 with⟨hv,_⟩|⟨g',cap,cur,rfl,hb,hg,r⟩
 ·rw[hv] at e;cases e
 ·have e':g'=g:=by simpa [Value.ownBlock] using e
  exact⟨cur,e'▸hg⟩
theorem nmI_inf:(Tryz.prog.info? 3).map (fun i=>(i.zero,i.size,i.bytes))=some (some (.int .i64 0),1,8):=by kernel_rfl
theorem nmI_one (x:Nat):(nmI x).oneCell'=true:=rfl
theorem nmI_rd1 (w:World)(k:Nat):Rd nmI (w.alloc (.cells #[.int .i64 (k:Int)] 3)) (w.alloc (.cells #[.int .i64 (k:Int)] 3)).heap.size (some ⟨w.heap.size,0,none⟩) 1 1 [k]:=Rd.new w #[.int .i64 (k:Int)] 3 1 [k] rfl rfl (by decide)
theorem fresh_bel {α:Type}{enc:α→Value}{E:TypeId}{w W V:World}{A:Option Addr}{n c:Nat}{l:List α}(h:Fresh enc E w W A n c l)(hb:Below W.heap.size W V):Fresh enc E w V A n c l:=⟨own_behind h.own hb,h.bel.trans (hb.mono h.bel.size)⟩
set_option maxRecDepth 100000 in
set_option maxHeartbeats 8000000 in
theorem of_ref (z:Sen)(A1:Option Addr)(n1 c1:Nat)(A2:Option Addr)(n2 c2:Nat)(A3:Option Addr)(n3 c3:Nat)(A4:Option Addr)(n4 c4:Nat)(w:World)(h:SenAt w z A1 n1 c1 A2 n2 c2 A3 n3 c3 A4 n4 c4)(hn:n1≤1000):
  Calls Tryz.prog 17 #[senV A1 n1 c1 A2 n2 c2 A3 n3 c3 A4 n4 c4] w fun e w'=> ∃A n c,e= .returned (.slice A n c)∧Rd nmI w' w'.heap.size A n c (alF z)∧Below w.heap.size w w':=by
 obtain⟨r,hr⟩: ∃r,wholeS z=r:=⟨_,rfl⟩
 have HR:=Lib.hid hr
 have HSW:Hid (∀W,Below w.heap.size w W→SenAt W z A1 n1 c1 A2 n2 c2 A3 n3 c3 A4 n4 c4):=Lib.hid fun W hW=>h.keep hW
 have hwh:=fun W (hW:Below w.heap.size w W)=>wholeR_any A1 n1 c1 A2 n2 c2 A3 n3 c3 A4 n4 c4 z W (h.keep hW) (by omega) r hr
 have HWH:=Lib.hid hwh
 have HN:=Lib.hid hn
 have HLEN:=Lib.hid h.rp.len
 have hx0:=heap_alloc_new w (.cells #[.slice A1 n1 c1,.slice A2 n2 c2,.slice A3 n3 c3,.slice A4 n4 c4] 28)
 have hz0:=ZB.of hx0
 have hb0:Below w.heap.size w (w.alloc (.cells #[.slice A1 n1 c1,.slice A2 n2 c2,.slice A3 n3 c3,.slice A4 n4 c4] 28)):=(Below.refl _ _).alloc (Nat.le_refl _) _
 have HX0:=Lib.hid hx0
 have HB0:=Lib.hid hb0
 have y0:=hz0.p0
 have y1:=hz0.p1
 have y2:=hz0.p2
 have y3:=hz0.p3
 clear hwh hr h hn hz0 hb0 hx0
 unfold senV at HWH ⊢
 cases r with
 |false=>
  go_enter Tryz.func17,Tryz.ntmps17
  go_wp2_with fail
  refine(HWH.out _ HB0.out).mono ?_
  rintro e w1 ⟨rfl,hv⟩
  have HB1:=Lib.hid (HB0.out.trans (hv.mono HB0.out.size))
  clear hv HWH y0 y1 y2 y3
  go_wp2_with fail
  go_ret
  refine⟨none,0,0,rfl,?_,HB1.out⟩
  unfold alF
  rw[HR.out]
  exact Rd.nil _ _
 |true=>
  obtain⟨i0,hi0,hz0,hz1,hz2⟩:=info_parts nmI_inf
  go_enter Tryz.func17,Tryz.ntmps17
  go_wp2_with fail
  refine(HWH.out _ HB0.out).mono ?_
  rintro e w1 ⟨rfl,hv⟩
  have HB1:=Lib.hid (HB0.out.trans (hv.mono HB0.out.size))
  have HX1:=Lib.hid ((hv.block _ (lt_blk HX0.out)).trans HX0.out)
  clear hv HWH y0 y1 y2 y3 HB0 HX0
  generalize w.alloc (.cells #[.slice A1 n1 c1,.slice A2 n2 c2,.slice A3 n3 c3,.slice A4 n4 c4] 28)=wa at*
  go_wp2_with fail
  go_loopw [3,4] (fun v3 v4 wr=> ∃(i:Nat) (A:Option Addr) (m c:Nat),v4= .int .i64 (i:Int)∧i≤n1∧v3= .slice A m c∧Fresh nmI 3 w wr A m c ((List.range i).map (first z))∧wr.heap[w.heap.size]?=some (.cells #[.slice A1 n1 c1,.slice A2 n2 c2,.slice A3 n3 c3,.slice A4 n4 c4] 28 (0,0))) (fun _ v4 _=>n1 - (intOf v4).toNat)
  case atStart=>exact⟨0,none,0,0,rfl,Nat.zero_le _,rfl,⟨World.ownsRow_nil _ _ _ _,HB1.out⟩,HX1.out⟩
  case round=>
   clear HB1 HX1
   obtain⟨i,A,m,c,rfl,hi,rfl,hfr,hbx⟩:=hrel
   have hzb:=ZB.of hbx
   by_cases hlt:i < n1
   ·obtain⟨p0,o0,p1,o1,p2,o2,p4,o4,rfl,rfl,rfl,rfl,q2,q3,q4,hL,hsd,hcl⟩:=cl_of (HSW.out wr hfr.bel) HR.out (by omega)
    obtain rfl:n1=n2:=q2.symm
    obtain rfl:n1=n3:=q3.symm
    obtain rfl:n1=n4:=q4.symm
    have HL:=Lib.hid hL
    have HCA:Hid (∀W,Below wr.heap.size wr W→ ∀k,k < i→Calls Tryz.prog 42 #[.agg #[.slice (some ⟨p0,o0,none⟩) n1 c1,.slice (some ⟨p1,o1,none⟩) n1 c2,.slice (some ⟨p2,o2,none⟩) n1 c3,.slice (some ⟨p4,o4,none⟩) n1 c4],.int .i64 (k:Int),.int .i64 (i:Int)] W fun e w'=>(∃r:Bool,e= .returned (.bool r)∧(r=true↔AlD z k i))∧Below W.heap.size W w'):=Lib.hid fun W hW k hk=>alike_ref z n1 c1 c2 c3 c4 p0 o0 p1 o1 p2 o2 p4 o4 k i W (hcl.keep hW) hL hsd HN.out (by omega) hlt
    have hlen:=hfr.len
    rw[List.length_map,List.length_range] at hlen
    have HNB:Hid (some w.heap.size≠(Value.slice A m c).ownBlock):=Lib.hid fun e=>by
     obtain⟨cur,hc⟩:=own_ty hfr.own e.symm
     rw[hbx] at hc
     injection hc with hc
     injection hc with _ hc
     exact absurd hc (by decide)
    obtain⟨ks,hks⟩: ∃ks,(List.range i).map (first z)=ks:=⟨_,rfl⟩
    rw[hks] at hfr
    have HKS:=Lib.hid hks
    have HFR:=Lib.hid hfr
    have HZB:=Lib.hid hzb
    have HBX:=Lib.hid hbx
    have HLT:=Lib.hid hlt
    have HM:=Lib.hid hlen
    have hin:(i:Int) < (n1:Int):=by omega
    have z0:=hzb.p0
    have hi9:i≤1000:=by have:=HN.out;omega
    clear hlen hks hfr hzb hlt hi hcl hsd hL hbx
    go_wp2_with fail
    clear z0
    obtain⟨wo,rfl⟩: ∃wo,wo=wr:=⟨_,rfl⟩
    go_loopw [5] (fun v5 wq=> ∃k:Nat,v5= .int .i64 (k:Int)∧k≤i∧(∀j < k,¬AlD z j i)∧Below wo.heap.size wo wq) (fun v5 _=>i - (intOf v5).toNat)
    case atStart=>exact⟨0,rfl,Nat.zero_le _,(fun j hj=>absurd hj (Nat.not_lt_zero j)),Below.refl _ _⟩
    case round=>
     obtain⟨k,rfl,hk,hno,hb⟩:=hrel
     have HNO:=Lib.hid hno
     have hzq:=HZB.out.keep hb
     have z0:=hzq.p0
     have z1:=hzq.p1
     have z2:=hzq.p2
     have z3:=hzq.p3
     have HBQ:=Lib.hid hb
     have hk9:k≤1000:=by omega
     clear hno hzq hb
     by_cases hki:k < i
     ·have HKI:=Lib.hid hki
      have hki':(k:Int) < (i:Int):=by omega
      have hca:=HCA.out wr HBQ.out k hki
      have HC:=Lib.hid hca
      clear hca hki hk
      go_wp2_with fail
      refine HC.out.mono ?_
      rintro e w5 ⟨⟨r,rfl,hr⟩,hv⟩
      have HB5:=Lib.hid (HBQ.out.trans (hv.mono HBQ.out.size))
      have HRR:=Lib.hid hr
      clear hv hr HC z0 z1 z2 z3
      cases r with
      |false=>
       go_wp2_with fail
       go_roundw
       case rel=>exact⟨k+1,by go_num,HKI.out,(fun j hj=>by
        by_cases ej:j=k
        ·subst ej;exact fun h=>absurd (HRR.out.2 h) (by decide)
        ·exact HNO.out j (by omega)),HB5.out⟩
       case measure=>
        have:=HKI.out
        simp[intOf]
        omega
      |true=>
       have HFI:Hid (first z i=k):=Lib.hid (first_hit HKI.out (HRR.out.1 rfl) HNO.out)
       have o1:=nmI_rd1 w5 k
       have hfr:=fresh_bel HFR.out HB5.out
       go_wp2_with (at_builtin;refine wpList_append_rd _ rfl (.tmp 28) (.tmp 30) 40 rfl w.heap.size 3 i0 (.int .i64 0) 8 Tryz.underlying40 hi0 hz0 hz1 hz2 rfl nmI_one (.slice A m c) m ks rfl (hfr.own.alloc _) _ _ 1 1 [k] rfl o1 (by have:=HM.out;unfold maxLen;omega) (by have:=HM.out;omega) (by have:=hfr.bel.size;simp;omega) ?_;intro A2 k2 c2 w2 hk2 own2 hg2 ha2)
       go_roundw
       case rel=>exact⟨i+1,A2,k2,c2,by go_num,HLT.out,rfl,by
        rw[List.range_succ,List.map_append,HKS.out,List.map_singleton,HFI.out]
        exact⟨own2,(hfr.bel.alloc hfr.bel.size _).grown hg2 (Nat.le_trans hfr.bel.size (by simp)) (fun j hj=>(hfr.own.lt j hj).1)⟩,by
        have hbx:=(HB5.out.block _ (lt_blk HBX.out)).trans HBX.out
        have hal:Below w5.heap.size w5 (w5.alloc (.cells #[.int .i64 (k:Int)] 3)):=(Below.refl _ _).alloc (Nat.le_refl _) _
        have hbx2:=(hal.block _ (lt_blk hbx)).trans hbx
        exact(hg2.block _ (lt_blk hbx2) HNB.out).trans hbx2⟩
       case measure=>
        have:=HLT.out
        simp[intOf]
        omega
     ·obtain rfl:i=k:=by omega
      have HFI:Hid (first z i=i):=Lib.hid (first_miss HNO.out)
      have HB5:=HBQ
      clear hki hk
      have o1:=nmI_rd1 wr i
      have hfr:=fresh_bel HFR.out HB5.out
      go_wp2_with (at_builtin;refine wpList_append_rd _ rfl (.tmp 28) (.tmp 30) 40 rfl w.heap.size 3 i0 (.int .i64 0) 8 Tryz.underlying40 hi0 hz0 hz1 hz2 rfl nmI_one (.slice A m c) m ks rfl (hfr.own.alloc _) _ _ 1 1 [i] rfl o1 (by have:=HM.out;unfold maxLen;omega) (by have:=HM.out;omega) (by have:=hfr.bel.size;simp;omega) ?_;intro A2 k2 c2 w2 hk2 own2 hg2 ha2)
      go_roundw
      case rel=>exact⟨i+1,A2,k2,c2,by go_num,HLT.out,rfl,by
       rw[List.range_succ,List.map_append,HKS.out,List.map_singleton,HFI.out]
       exact⟨own2,(hfr.bel.alloc hfr.bel.size _).grown hg2 (Nat.le_trans hfr.bel.size (by simp)) (fun j hj=>(hfr.own.lt j hj).1)⟩,by
       have hbx:=(HB5.out.block _ (lt_blk HBX.out)).trans HBX.out
       have hal:Below wr.heap.size wr (wr.alloc (.cells #[.int .i64 (i:Int)] 3)):=(Below.refl _ _).alloc (Nat.le_refl _) _
       have hbx2:=(hal.block _ (lt_blk hbx)).trans hbx
       exact(hg2.block _ (lt_blk hbx2) HNB.out).trans hbx2⟩
      case measure=>
       have:=HLT.out
       simp[intOf]
       omega
   ·obtain rfl:n1=i:=by omega
    have HFR:=Lib.hid hfr
    have z0:=hzb.p0
    clear hfr hzb hlt hi hbx
    go_wp2_with fail
    go_ret
    refine⟨A,m,c,rfl,?_,HFR.out.bel⟩
    unfold alF
    rw[if_pos HR.out,HLEN.out]
    exact HFR.out.rd
end Go.Proofs.YtphklakjadchmaaGreatDoor.I
