import Derived.Test.YtmejhedegmjboaaGreatOpn
set_option maxRecDepth 100000
set_option maxHeartbeats 4000000
namespace Go.Proofs.YtmejhedegmjboaaGreat.I
open Go.RowKit
theorem YC (A1:Option Addr)(n1 c1:Nat)(A2:Option Addr)(n2 c2:Nat)(A3:Option Addr)(n3 c3:Nat)(A4:Option Addr)(n4 c4:Nat)(z:Sen)(w:World)(h:Zx w z A1 n1 c1 A2 n2 c2 A3 n3 c3 A4 n4 c4)(hn:n1≤100000)(r:Bool)(hr:Zn z=r):
  Calls Tryz.prog 62 #[senV A1 n1 c1 A2 n2 c2 A3 n3 c3 A4 n4 c4] w fun e w'=>e= .returned (.bool r)∧Below w.heap.size w w':=by
 unfold senV
 have hal:Below w.heap.size w (w.alloc (.cells #[.slice A1 n1 c1,.slice A2 n2 c2,.slice A3 n3 c3,.slice A4 n4 c4] 28)):=bA
 have hz:=B4.blk (heap_alloc_new w (.cells #[.slice A1 n1 c1,.slice A2 n2 c2,.slice A3 n3 c3,.slice A4 n4 c4] 28))
 have p0:=hz.p0
 have p1:=hz.p1
 have p2:=hz.p2
 have p3:=hz.p3
 have HB:=Hd hal
 have HZ:=Hd hz
 have HS:=Hd (h.keep hal)
 have HN:=Hd hn
 have e1:=h.rp.len
 have e2:=h.rl.len
 have e3:=h.rh.len
 have e4:=h.rb.len
 have HIF:Hid (r=true↔n2=n1∧n3=n1∧n4=n1∧(∀p∈z.p,p.s≤2)∧ ∀x∈z.be,x.length=n1):=Hd (by rw[← hr,ZE,e1,e2,e3,e4])
 have HE1:=Hd e1
 have HE4:=Hd e4
 have no:(¬(n2=n1∧n3=n1∧n4=n1))→r=false:=fun hne=>by(
 cases r with
 |false=>rfl
 |true=>exact absurd ⟨(HIF.out.1 rfl).1,(HIF.out.1 rfl).2.1,(HIF.out.1 rfl).2.2.1⟩ hne)
 clear hal hz h hr e1 e2 e3 e4 hn
 by_cases g1:n2=n1
 case neg=>(
 obtain rfl:r=false:=no fun k=>g1 k.1
 have hne:((n2:Int) !=(n1:Int))=true:=by rw[int_ne,decide_eq_false g1];rfl
 clear no HIF g1
 go_enter Tryz.func62,Tryz.ntmps62
 go_wp2
 go_ret
 exact⟨rfl,HB.out⟩)
 by_cases g2:n3=n1
 case neg=>(
 obtain rfl:r=false:=no fun k=>g2 k.2.1
 have hne:((n3:Int) !=(n1:Int))=true:=by rw[int_ne,decide_eq_false g2];rfl
 have hne1:((n2:Int) !=(n1:Int))=false:=by rw[int_ne,decide_eq_true g1];rfl
 clear no HIF g2 g1
 go_enter Tryz.func62,Tryz.ntmps62
 go_wp2
 go_ret
 exact⟨rfl,HB.out⟩)
 by_cases g3:n4=n1
 case neg=>(
 obtain rfl:r=false:=no fun k=>g3 k.2.2
 have hne:((n4:Int) !=(n1:Int))=true:=by rw[int_ne,decide_eq_false g3];rfl
 have hne1:((n2:Int) !=(n1:Int))=false:=by rw[int_ne,decide_eq_true g1];rfl
 have hne2:((n3:Int) !=(n1:Int))=false:=by rw[int_ne,decide_eq_true g2];rfl
 clear no HIF g3 g2 g1
 go_enter Tryz.func62,Tryz.ntmps62
 go_wp2
 go_ret
 exact⟨rfl,HB.out⟩)
 obtain rfl:n2=n1:=g1
 obtain rfl:n3=n2:=g2
 obtain rfl:n4=n3:=g3
 have HIF2:Hid (r=true↔(∀p∈z.p,p.s≤2)∧ ∀x∈z.be,x.length=n4):=Hd ⟨fun e=>(HIF.out.1 e).2.2.2,fun e=>HIF.out.2 ⟨rfl,rfl,rfl,e⟩⟩
 have hne:((n4:Int) !=(n4:Int))=false:=by rw[int_ne];simp
 clear no HIF
 go_enter Tryz.func62,Tryz.ntmps62
 go_wp2_with fail
 clear p0 p1 p2 p3 hne
 obtain⟨x,hx⟩: ∃x,w.alloc (.cells #[.slice A1 n4 c1,.slice A2 n4 c2,.slice A3 n4 c3,.slice A4 n4 c4] 28)=x:=⟨_,rfl⟩
 rw[hx] at HB HZ HS ⊢
 clear hx
 go_loopw [4] (fun v4 wr=> ∃i:Nat,v4= .int .i64 (i:Int)∧i≤n4∧wr=x∧(∀j (h:j < z.p.length),j < i→z.p[j].s≤2)∧ ∀j (h:j < z.be.length),j < i→z.be[j].length=n4) (fun v4 _=>n4 - (intOf v4).toNat)
 case atStart=>exact⟨0,rfl,Nat.zero_le _,rfl,(fun j _ h=>absurd h (Nat.not_lt_zero j)),fun j _ h=>absurd h (Nat.not_lt_zero j)⟩
 case round=>(
 obtain⟨i,rfl,hi,rfl,ha1,ha2⟩:=hrel
 by_cases hlt:i < n4
 ·(
 have hi1:i < z.p.length:=by rw[HE1.out];exact hlt
 have hi2:i < z.be.length:=by rw[HE4.out];exact hlt
 obtain⟨b1,o1,rfl,-,-,-,hs,-,-⟩:=Z7 HS.out.rp hi1
 obtain⟨b,o,A',n',c',rfl,-,hc,hrd⟩:=HS.out.rb.row hi2
 have HA1:=Hd ha1
 have HA2:=Hd ha2
 have HN':=Hd hrd.len
 have HSS:Hid (∃s,s=z.p[i].s):=Hd ⟨_,rfl⟩
 have HSP:=Hd (show z.p[i].s=z.p[i].s from rfl)
 have p0:=HZ.out.p0
 have p3:=HZ.out.p3
 have hin:(i:Int) < (n4:Int):=by omega
 have HLT:Hid (n4=i+1+(n4 - (i+1))):=Hd (by omega)
 have hib:i≤100000:=by have:=HN.out;omega
 obtain⟨s,hse⟩: ∃s,z.p[i].s=s:=⟨_,rfl⟩
 rw[hse] at hs
 have HSE:=Hd hse
 clear ha1 ha2 hrd hlt hi hse HSS HSP
 by_cases hg:(2:Int) < (s:Int)
 ·obtain rfl:r=false:=by
   cases r with
   |false=>rfl
   |true=>(
 have:=(HIF2.out.1 rfl).1 _ (List.getElem_mem hi1)
 rw[HSE.out] at this
 omega)
  go_wp2_with fail
  go_ret
  exact⟨rfl,HB.out⟩
 by_cases hm:n'=n4
 case neg=>(
 have hne:((n':Int) !=(n4:Int))=true:=by rw[int_ne,decide_eq_false hm];rfl
 obtain rfl:r=false:=by(
 cases r with
 |false=>rfl
 |true=>(
 have:=(HIF2.out.1 rfl).2 _ (List.getElem_mem hi2)
 rw[HN'.out] at this
 exact absurd this hm))
 clear hm
 go_wp2_with fail
 go_ret
 exact⟨rfl,HB.out⟩)
 have hne:((n':Int) !=(n4:Int))=false:=by rw[int_ne,decide_eq_true hm];rfl
 have HM:=Hd hm
 have HS2:=Hd (show s≤2 by omega)
 clear hm
 go_wp2_with fail
 clear p0 p3 hc hs hin hg hne
 go_roundw
 case rel=>exact⟨i+1,by go_num,by have:=HLT.out;omega,(by first|rfl|trivial),(fun j hj hji=>by
   by_cases e:j=i
   ·subst e;rw[HSE.out];exact HS2.out
   ·exact HA1.out j hj (by omega)),fun j hj hji=>by
   by_cases e:j=i
   ·subst e;rw[HN'.out];exact HM.out
   ·exact HA2.out j hj (by omega)⟩
 case measure=>(
 have:=HLT.out
 simp[intOf]
 omega))
 ·(
 obtain rfl:i=n4:=by omega
 obtain rfl:r=true:=HIF2.out.2 ⟨fun p hp=>by
  obtain⟨j,hj,rfl⟩:=List.mem_iff_getElem.1 hp
  exact ha1 j hj (by rw[← HE1.out];exact hj),fun q hq=>by
  obtain⟨j,hj,rfl⟩:=List.mem_iff_getElem.1 hq
  exact ha2 j hj (by rw[← HE4.out];exact hj)⟩
 clear ha1 ha2 hlt
 go_wp2_with fail
 go_ret
 exact⟨rfl,HB.out⟩))
end Go.Proofs.YtmejhedegmjboaaGreat.I
