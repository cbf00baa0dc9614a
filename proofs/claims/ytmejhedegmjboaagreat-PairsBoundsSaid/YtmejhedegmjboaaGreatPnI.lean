import Derived.Test.YtmejhedegmjboaaGreatPaB
import Derived.Test.YtmejhedegmjboaaGreatPnH
set_option maxRecDepth 100000
set_option maxHeartbeats 16000000
namespace Go.Proofs.YtmejhedegmjboaaGreat.I
open Go.RowKit PaC
noncomputable def tmF (S:Bo.Sr) (z:Sen) (i k:Nat):List Tm:=(List.range i).map (trm S z)++if (cfg S z).num i < k then [(true,((cfg S z).num i:Int))] else []
theorem ZiO (S:Bo.Sr)(z:Sen)(i:Nat):tmF S z i 0=(List.range i).map (trm S z):=by
 unfold tmF
 rw[if_neg (Nat.not_lt_zero _),List.append_nil]
theorem Zcq {S:Bo.Sr}{z:Sen}{i k:Nat}(h:(cfg S z).num i=k):tmF S z i (k+1)=tmF S z i k++ [(true,(k:Int))]:=by
 unfold tmF
 rw[if_pos (by omega),if_neg (by omega),List.append_nil,h]
theorem Zmv {S:Bo.Sr}{z:Sen}{i k:Nat}(h:(cfg S z).num i≠k):tmF S z i (k+1)=tmF S z i k:=by
 unfold tmF
 by_cases h1:(cfg S z).num i < k
 ·rw[if_pos (by omega),if_pos h1]
 ·rw[if_neg (by omega),if_neg h1]
theorem Zlf {S:Bo.Sr}{z:Sen}{i k:Nat}(hf:fixB S z i=false)(h:(cfg S z).num i < k):tmF S z i k=(List.range (i+1)).map (trm S z):=by
 unfold tmF
 rw[if_pos h,List.range_succ,List.map_append]
 congr 1
 simp[trm,hf]
theorem Zmw {S:Bo.Sr}{z:Sen}{i:Nat}(hf:fixB S z i=true):(List.range (i+1)).map (trm S z)=(List.range i).map (trm S z)++ [(false,(valF z i:Int))]:=by
 rw[List.range_succ,List.map_append]
 congr 1
 simp[trm,hf]
theorem Zlg (t:Nat)(B:Option Addr)(m d q:Nat)(S:Bo.Sr)(z:Sen)(A1:Option Addr)(n1 c1:Nat)(A2:Option Addr)(n2 c2:Nat)(A3:Option Addr)(n3 c3:Nat)(A4:Option Addr)(n4 c4:Nat)(w:World)(hs:Bo.RSrt w.heap.size w t B m d q S)(h:Zx w z A1 n1 c1 A2 n2 c2 A3 n3 c3 A4 n4 c4)(hn:n1≤1000):
  Calls Tryz.prog 35 #[Bo.rsV t B m d q,senV A1 n1 c1 A2 n2 c2 A3 n3 c3 A4 n4 c4] w fun e w'=> ∃A N c,e= .returned (.tuple #[.slice A N c,.int .i64 (trmN S z:Int)])∧w'.ownsRow w.heap.size 62 2 (.slice A N c) N ((trmL S z).flatMap tmc)∧Below w.heap.size w w':=by
 obtain⟨r,hr⟩: ∃r,Zn z=r:=⟨_,rfl⟩
 have HR0:=Hd hr
 obtain⟨x,hx⟩: ∃x,w.alloc (.cells #[.int .i64 (t:Int),.slice B m d,.int .i64 (q:Int)] 37)=x:=⟨_,rfl⟩
 obtain⟨y,hy⟩: ∃y,x.alloc (.cells #[.slice A1 n1 c1,.slice A2 n2 c2,.slice A3 n3 c3,.slice A4 n4 c4] 28)=y:=⟨_,rfl⟩
 have b0:Below w.heap.size w x:=hx▸bA
 have sx:x.heap.size=w.heap.size+1:=by rw[← hx,World.size_alloc]
 have b1:Below x.heap.size x y:=hy▸bA
 have k0:=hx▸heap_alloc_new w (.cells #[.int .i64 (t:Int),.slice B m d,.int .i64 (q:Int)] 37)
 have hrb:RBox y w.heap.size t B m d q:=(RBox.of k0).keep b1
 have hz:ZB y (w.heap.size+1) A1 n1 c1 A2 n2 c2 A3 n3 c3 A4 n4 c4:=by rw[← sx, ← hy];exact ZB.of (heap_alloc_new x _)
 have hb:Below w.heap.size w y:=b0.trans (b1.mono b0.size)
 have HB:=Hd hb
 have HN:=Hd hn
 have HLEN:=Hd h.rp.len
 have HAC:=Hd (ZfE t B m d q S z A1 n1 c1 A2 n2 c2 A3 n3 c3 A4 n4 c4 y (hs.keep hb) (h.keep hb) hn)
 rw[hr] at HAC
 have q0:=hrb.s0
 have q1:=hrb.s1
 have q2:=hrb.s2
 have z0:=hz.p0
 have z1:=hz.p1
 have z2:=hz.p2
 have z3:=hz.p3
 have HO:=fun (e:Zn z=true)=>Yw (S:=S) e
 clear hr b0 b1 sx k0 hrb hz hb h hs hn
 subst hx
 unfold senV Bo.rsV at HAC ⊢
 go_enter Tryz.func35,Tryz.ntmps35
 go_wp2_with fail
 generalize hwd:World.alloc (World.alloc w _) _=wd'
 obtain rfl:y=wd':=hy.symm.trans hwd
 clear hwd hy
 refine HAC.out.mono ?_
 rintro e w1 ⟨D1,k1,e1,D2,k2,e2,D3,k3,e3,L,NN,cc,rfl,hal,hv⟩
 have HB1:=Hd (HB.out.trans (hv.mono HB.out.size))
 clear hv q0 q1 q2 z0 z1 z2 z3 HAC
 cases r with
 |false=>(
 clear hal
 go_wp2_with fail
 go_ret2
 refine⟨none,0,0,?_,?_,HB1.out⟩
 ·unfold trmN
  rw[HR0.out]
  rfl
 ·unfold trmL
  rw[HR0.out]
  exact World.ownsRow_nil _ _ _ _)
 |true=>
 have hall:=hal rfl
 have OK:=Hd (HO HR0.out)
 have HALL:=Hd hall
 have hk1:k1=n1:=by(
 have h1:=hall.f.len
 unfold alF at h1
 rw[if_pos HR0.out,List.length_map,List.length_range,HLEN.out] at h1
 exact h1.symm)
 have hk2:k2=n1:=by(
 have h1:=hall.x.len
 unfold fixF at h1
 rw[if_pos HR0.out,List.length_map,List.length_range,HLEN.out] at h1
 exact h1.symm)
 have hk3:k3=n1:=by(
 have h1:=hall.v.len
 unfold fvF at h1
 rw[if_pos HR0.out,List.length_map,List.length_range,HLEN.out] at h1
 exact h1.symm)
 subst hk1 hk2 hk3
 have HNV:Hid (NN=(cfg S z).vars):=Hd (by rw[← hall.n.len,Vo OK.out])
 have HNL:Hid (NN≤k3):=Hd (by
 rw[HNV.out]
 have:=List.length_filter_le (cfg S z).lead (List.range (cfg S z).n)
 rw[List.length_range] at this
 exact Nat.le_trans (show(cfg S z).vars≤(cfg S z).n from this) (Nat.le_of_eq HLEN.out))
 clear hal hall HO
 go_wp2_with fail
 go_loopw [11,12] (fun v11 v12 wr=> ∃(i:Nat) (A:Option Addr) (N c:Nat),v12= .int .i64 (i:Int)∧v11= .slice A N c∧i≤k3∧wr.ownsRow w1.heap.size 62 2 (.slice A N c) N (((List.range i).map (trm S z)).flatMap tmc)∧Below w1.heap.size w1 wr) (fun _ v12 _=>k3 - (intOf v12).toNat)
 case atStart=>exact⟨0,none,0,0,rfl,rfl,Nat.zero_le _,World.ownsRow_nil _ _ _ _,Below.refl _ _⟩
 case round=>(
 obtain⟨i,A,N,c,rfl,rfl,hi,hown,hb⟩:=hrel
 by_cases hlt:i < k3
 case pos=>(
 have HLT:=Hd hlt
 have hin:(i:Int) < (k3:Int):=by omega
 have hi9:i≤1000:=by have:=HN.out;omega
 have HOWN:=Hd hown
 have HBW:=Hd hb
 have hN1:N+1≤100000:=by(
 have h1:=Zl ZK (by decide) hown
 rw[List.length_map,List.length_range] at h1
 omega)
 have ha:=HALL.out.keep hb
 obtain⟨g1,q1,rfl,-,hc1⟩:=ha.f.spot (by omega)
 obtain⟨g2,q2,rfl,-,hc2⟩:=ha.x.spot (by omega)
 obtain⟨g3,q3,rfl,-,hc3⟩:=ha.v.spot (by omega)
 have hi1:i < (alF z).length:=by rw[ha.f.len];exact hlt
 have hi2:i < (fixF S z).length:=by rw[ha.x.len];exact hlt
 have hi3:i < (fvF S z).length:=by rw[ha.v.len];exact hlt
 have f0:=hc1 i hi1
 have f1:=hc2 i hi2
 have f2:=hc3 i hi3
 have ef0:(alF z)[i]=first z i:=by(
 have:=List.getElem_of_eq (show alF z=(List.range z.p.length).map (first z) from if_pos HR0.out) hi1
 rw[this]
 simp)
 have ef1:(fixF S z)[i]=fixB S z i:=by(
 have:=List.getElem_of_eq (show fixF S z=(List.range z.p.length).map (fixB S z) from if_pos HR0.out) hi2
 rw[this]
 simp)
 have ef2:(fvF S z)[i]=if fixB S z i=true then valF z i else 0:=by(
 have:=List.getElem_of_eq (show fvF S z=(List.range z.p.length).map (fun i=>if fixB S z i=true then valF z i else 0) from if_pos HR0.out) hi3
 rw[this]
 simp)
 rw[ef0] at f0
 rw[ef1] at f1
 rw[ef2] at f2
 clear hc1 hc2 hc3 hi1 hi2 hi3 ef0 ef1 ef2 ha hlt hi hown hb
 replace f0:wr.cell? ⟨g1,q1+i,none⟩=some (.int .i64 (first z i:Int)):=f0
 obtain⟨fx,hfx⟩: ∃x,fixB S z i=x:=⟨_,rfl⟩
 rw[hfx] at f1 f2
 cases fx with
 |true=>(
 have HR:=Hd (Zmw hfx)
 rw[if_pos rfl] at f2
 generalize valF z i=vf at*
 replace f2:wr.cell? ⟨g3,q3+i,none⟩=some (.int .u64 (vf:Int)):=f2
 clear hfx f0
 have HO:=Hd (show Rs tmc 2 (wr.alloc (.cells #[.bool false,.int .u64 (vf:Int)] 62)) (wr.alloc (.cells #[.bool false,.int .u64 (vf:Int)] 62)).heap.size (some ⟨wr.heap.size,0,none⟩) 1 1 [(false,(vf:Int))] from Rs.of_blk ZK (heap_alloc_new wr _) ⟨[],rfl⟩ rfl lR (by unfold maxLen;omega))
 have HAL:=Hd (show Below wr.heap.size wr (wr.alloc (.cells #[.bool false,.int .u64 (vf:Int)] 62)) from bA)
 have HW:=Hd (Zi HOWN.out HAL.out)
 have hsz:w1.heap.size≤(wr.alloc (.cells #[.bool false,.int .u64 (vf:Int)] 62)).heap.size:=Nat.le_trans HBW.out.size HAL.out.size
 go_wp2_with (at_builtin;refine Zk ZK (by decide) Ul Tryz.underlying29 Kv rfl (by decide) rfl (.tmp 35) (.tmp 41) rfl w1.heap.size _ N _ rfl HW.out _ _ 1 1 [(false,(vf:Int))] rfl HO.out hN1 hsz ?_;intro A' k' c' w' HK HA)
 go_roundw
 case rel=>exact⟨i+1,A',k',c',by go_num,rfl,HLT.out,by rw[HR.out];exact HA.out.own,(HBW.out.trans (HAL.out.mono HBW.out.size)).grown HA.out.grown hsz fun j hj=>(HW.out.lt j hj).1⟩
 case measure=>(
 have:=HLT.out
 simp[intOf]
 omega))
 |false=>(
 have HFX:=Hd hfx
 have HNM:Hid ((cfg S z).num i < NN):=Hd (by
 rw[HNV.out]
 exact Zjm hfx (show i < (cfg S z).n by rw[show(cfg S z).n=k3 from HLEN.out];exact HLT.out))
 obtain⟨f,hf⟩: ∃f,first z i=f:=⟨_,rfl⟩
 rw[hf] at f0
 have HF:=Hd hf
 have HF0:Hid (∀W,Below w1.heap.size w1 W→W.cell? ⟨g1,q1+i,none⟩=some (.int .i64 (f:Int))):=Hd fun W hW=>by(
 have ha:=HALL.out.keep hW
 obtain⟨b,o,e,-,hc1⟩:=ha.f.spot (by have:=HLT.out;omega)
 injection e with e
 injection e with ea eb
 subst ea eb
 have hi1:i < (alF z).length:=by rw[ha.f.len];exact HLT.out
 have h0:=hc1 i hi1
 have ef0:(alF z)[i]=first z i:=by(
 have:=List.getElem_of_eq (show alF z=(List.range z.p.length).map (first z) from if_pos HR0.out) hi1
 rw[this]
 simp)
 rw[ef0,HF.out] at h0
 exact h0)
 have HOWNI:=Hd HOWN.out
 have HBI:=Hd HBW.out
 clear hfx hf f0 f2 HOWN HBW
 go_wp2_with fail
 clear f1
 go_loopw [11,13] (fun v11 v13 wr=> ∃(k:Nat) (A:Option Addr) (N c:Nat),v13= .int .i64 (k:Int)∧v11= .slice A N c∧k≤NN∧wr.ownsRow w1.heap.size 62 2 (.slice A N c) N ((tmF S z i k).flatMap tmc)∧Below w1.heap.size w1 wr) (fun _ v13 _=>NN - (intOf v13).toNat)
 case atStart=>exact⟨0,A,N,c,rfl,rfl,Nat.zero_le _,by rw[ZiO];exact HOWNI.out,HBI.out⟩
 case round=>(
 clear HOWNI HBI hN1
 obtain⟨k,A,N,c,rfl,rfl,hk,hown,hb⟩:=hrel
 have hk9:k≤1000:=by have:=HNL.out;have:=HN.out;omega
 by_cases hlk:k < NN
 case pos=>(
 have HLK:=Hd hlk
 have hkn:(k:Int) < (NN:Int):=by omega
 have HOWN:=Hd hown
 have HBW:=Hd hb
 have ha:=HALL.out.keep hb
 have hkl:k < (cfg S z).sorted.length:=by rw[ha.n.len];exact hlk
 obtain⟨b,o,rfl,-,hcl⟩:=ha.n.spot (by omega)
 have u0:=hcl k hkl 0 _ rfl
 have u1:=hcl k hkl 1 _ rfl
 have u2:=hcl k hkl 2 _ rfl
 have f0:=HF0.out wr hb
 have HHA:Hid ((cfg S z).sorted[k].has f↔(cfg S z).num i=k):=Hd (by
 have:=YQ (j:=i) OK.out (List.getElem?_eq_getElem hkl) (show i < (cfg S z).n by rw[show(cfg S z).n=k3 from HLEN.out];exact HLT.out) HFX.out
 rw[show(cfg S z).first i=f from HF.out] at this
 exact this)
 have hN1:N+1≤100000:=by(
 have h1:=Zl ZK (by decide) hown
 unfold tmF at h1
 rw[List.length_append,List.length_map,List.length_range] at h1
 split at h1 <;> simp at h1 <;> omega)
 generalize (cfg S z).sorted[k]=x at*
 replace u0:wr.cell? ⟨b,o+k*3,none⟩=some (.int .i64 x.u):=u0
 unfold Vn.has at HHA
 clear hcl hkl hlk hk hown hb ha
 go_wp2_with fail
 by_cases hu:x.u=(f:Int)
 case pos=>(
 have gu:(x.u==(f:Int))=true:=by rw[beq_iff_eq];exact hu
 have HR:=Hd (Zcq (HHA.out.1 (.inl hu)))
 clear hu HHA
 refine wro [0,1,2,3,4,5,6,7,8,9,10,11,12,13,14,15,16,17,18,19,20,21,22,23,24,25,26,27,28,29,30,31,32,33] [] 34 (fun W=>W.cell? ⟨b,o+k*3,none⟩=some (.int .i64 x.u)∧W.cell? ⟨b,o+k*3+1,none⟩=some (.int .i64 x.d)∧W.cell? ⟨b,o+k*3+2,none⟩=some (.int .i64 x.b)∧W.cell? ⟨g1,q1+i,none⟩=some (.int .i64 (f:Int))) (by kernel_rfl) (fun _ _ _ _ _ h=>h) ⟨Za u0 (Below.refl _ _).drew,Za u1 (Below.refl _ _).drew,Za u2 (Below.refl _ _).drew,Za f0 (Below.refl _ _).drew⟩ ?_
 simp only[steps,sE,sD]
 repeat((first|refine Zf rfl ?_|(refine Zd (v:= ?_) rfl rfl ?_ ?_;rotate_left;(focus(rintro w' ⟨x0,x1,x2,x3⟩;go_simp;try with_reducible rfl))));simp only[Act.put,sA,sB,sC])
 refine Zg ?_
 have HB5:=Hd (HBW.out.trans ((Below.refl wr.heap.size wr).drew.mono HBW.out.size))
 have HOWN5:=Hd (Zi HOWN.out (Below.refl wr.heap.size wr).drew)
 generalize World.drew _=w5 at*
 clear u0 u1 u2 f0 HBW HOWN
 have hkw:IntKind.u64.wrap (k:Int)=(k:Int):=by rw[IntKind.wrap_u64];omega
 have HO:=Hd (show Rs tmc 2 (w5.alloc (.cells #[.bool true,.int .u64 (k:Int)] 62)) (w5.alloc (.cells #[.bool true,.int .u64 (k:Int)] 62)).heap.size (some ⟨w5.heap.size,0,none⟩) 1 1 [(true,(k:Int))] from Rs.of_blk ZK (heap_alloc_new w5 _) ⟨[],rfl⟩ rfl lR (by unfold maxLen;omega))
 have HAL:=Hd (show Below w5.heap.size w5 (w5.alloc (.cells #[.bool true,.int .u64 (k:Int)] 62)) from bA)
 have HW:=Hd (Zi HOWN5.out HAL.out)
 have hsz:w1.heap.size≤(w5.alloc (.cells #[.bool true,.int .u64 (k:Int)] 62)).heap.size:=Nat.le_trans HB5.out.size HAL.out.size
 go_wp2_with (at_builtin;refine Zk ZK (by decide) Ul Tryz.underlying29 Kv rfl (by decide) rfl (.tmp 83) (.tmp 87) rfl w1.heap.size _ N _ rfl HW.out _ _ 1 1 [(true,(k:Int))] rfl HO.out hN1 hsz ?_;intro A' k' c' w' HK HA)
 go_roundw
 case rel=>exact⟨k+1,A',k',c',by go_num,rfl,HLK.out,by rw[HR.out];exact HA.out.own,(HB5.out.trans (HAL.out.mono HB5.out.size)).grown HA.out.grown hsz fun j hj=>(HW.out.lt j hj).1⟩
 case measure=>(
 have:=HLK.out
 simp[intOf]
 omega))
 have gu:(x.u==(f:Int))=false:=by rw[beq_eq_false_iff_ne];exact hu
 by_cases hd:x.d=(f:Int)
 case pos=>(
 have gd:(x.d==(f:Int))=true:=by rw[beq_iff_eq];exact hd
 have HR:=Hd (Zcq (HHA.out.1 (.inr (.inl hd))))
 clear hu hd HHA
 refine wro [0,1,2,3,4,5,6,7,8,9,10,11,12,13,14,15,16,17,18,19,20,21,22,23,24,25,26,27,28,29,30,31,32,33] [] 34 (fun W=>W.cell? ⟨b,o+k*3,none⟩=some (.int .i64 x.u)∧W.cell? ⟨b,o+k*3+1,none⟩=some (.int .i64 x.d)∧W.cell? ⟨b,o+k*3+2,none⟩=some (.int .i64 x.b)∧W.cell? ⟨g1,q1+i,none⟩=some (.int .i64 (f:Int))) (by kernel_rfl) (fun _ _ _ _ _ h=>h) ⟨Za u0 (Below.refl _ _).drew,Za u1 (Below.refl _ _).drew,Za u2 (Below.refl _ _).drew,Za f0 (Below.refl _ _).drew⟩ ?_
 simp only[steps,sE,sD]
 repeat((first|refine Zf rfl ?_|(refine Zd (v:= ?_) rfl rfl ?_ ?_;rotate_left;(focus(rintro w' ⟨x0,x1,x2,x3⟩;go_simp;try with_reducible rfl))));simp only[Act.put,sA,sB,sC])
 refine Zg ?_
 have HB5:=Hd (HBW.out.trans ((Below.refl wr.heap.size wr).drew.mono HBW.out.size))
 have HOWN5:=Hd (Zi HOWN.out (Below.refl wr.heap.size wr).drew)
 generalize World.drew _=w5 at*
 clear u0 u1 u2 f0 HBW HOWN
 have hkw:IntKind.u64.wrap (k:Int)=(k:Int):=by rw[IntKind.wrap_u64];omega
 have HO:=Hd (show Rs tmc 2 (w5.alloc (.cells #[.bool true,.int .u64 (k:Int)] 62)) (w5.alloc (.cells #[.bool true,.int .u64 (k:Int)] 62)).heap.size (some ⟨w5.heap.size,0,none⟩) 1 1 [(true,(k:Int))] from Rs.of_blk ZK (heap_alloc_new w5 _) ⟨[],rfl⟩ rfl lR (by unfold maxLen;omega))
 have HAL:=Hd (show Below w5.heap.size w5 (w5.alloc (.cells #[.bool true,.int .u64 (k:Int)] 62)) from bA)
 have HW:=Hd (Zi HOWN5.out HAL.out)
 have hsz:w1.heap.size≤(w5.alloc (.cells #[.bool true,.int .u64 (k:Int)] 62)).heap.size:=Nat.le_trans HB5.out.size HAL.out.size
 go_wp2_with (at_builtin;refine Zk ZK (by decide) Ul Tryz.underlying29 Kv rfl (by decide) rfl (.tmp 83) (.tmp 87) rfl w1.heap.size _ N _ rfl HW.out _ _ 1 1 [(true,(k:Int))] rfl HO.out hN1 hsz ?_;intro A' k' c' w' HK HA)
 go_roundw
 case rel=>exact⟨k+1,A',k',c',by go_num,rfl,HLK.out,by rw[HR.out];exact HA.out.own,(HB5.out.trans (HAL.out.mono HB5.out.size)).grown HA.out.grown hsz fun j hj=>(HW.out.lt j hj).1⟩
 case measure=>(
 have:=HLK.out
 simp[intOf]
 omega))
 have gd:(x.d==(f:Int))=false:=by rw[beq_eq_false_iff_ne];exact hd
 by_cases hb:x.b=(f:Int)
 case pos=>(
 have gb:(x.b==(f:Int))=true:=by rw[beq_iff_eq];exact hb
 have HR:=Hd (Zcq (HHA.out.1 (.inr (.inr hb))))
 clear hu hd hb HHA
 refine wro [0,1,2,3,4,5,6,7,8,9,10,11,12,13,14,15,16,17,18,19,20,21,22,23,24,25,26,27,28,29,30,31,32,33] [] 34 (fun W=>W.cell? ⟨b,o+k*3,none⟩=some (.int .i64 x.u)∧W.cell? ⟨b,o+k*3+1,none⟩=some (.int .i64 x.d)∧W.cell? ⟨b,o+k*3+2,none⟩=some (.int .i64 x.b)∧W.cell? ⟨g1,q1+i,none⟩=some (.int .i64 (f:Int))) (by kernel_rfl) (fun _ _ _ _ _ h=>h) ⟨Za u0 (Below.refl _ _).drew,Za u1 (Below.refl _ _).drew,Za u2 (Below.refl _ _).drew,Za f0 (Below.refl _ _).drew⟩ ?_
 simp only[steps,sE,sD]
 repeat((first|refine Zf rfl ?_|(refine Zd (v:= ?_) rfl rfl ?_ ?_;rotate_left;(focus(rintro w' ⟨x0,x1,x2,x3⟩;go_simp;try with_reducible rfl))));simp only[Act.put,sA,sB,sC])
 refine Zg ?_
 have HB5:=Hd (HBW.out.trans ((Below.refl wr.heap.size wr).drew.mono HBW.out.size))
 have HOWN5:=Hd (Zi HOWN.out (Below.refl wr.heap.size wr).drew)
 generalize World.drew _=w5 at*
 clear u0 u1 u2 f0 HBW HOWN
 have hkw:IntKind.u64.wrap (k:Int)=(k:Int):=by rw[IntKind.wrap_u64];omega
 have HO:=Hd (show Rs tmc 2 (w5.alloc (.cells #[.bool true,.int .u64 (k:Int)] 62)) (w5.alloc (.cells #[.bool true,.int .u64 (k:Int)] 62)).heap.size (some ⟨w5.heap.size,0,none⟩) 1 1 [(true,(k:Int))] from Rs.of_blk ZK (heap_alloc_new w5 _) ⟨[],rfl⟩ rfl lR (by unfold maxLen;omega))
 have HAL:=Hd (show Below w5.heap.size w5 (w5.alloc (.cells #[.bool true,.int .u64 (k:Int)] 62)) from bA)
 have HW:=Hd (Zi HOWN5.out HAL.out)
 have hsz:w1.heap.size≤(w5.alloc (.cells #[.bool true,.int .u64 (k:Int)] 62)).heap.size:=Nat.le_trans HB5.out.size HAL.out.size
 go_wp2_with (at_builtin;refine Zk ZK (by decide) Ul Tryz.underlying29 Kv rfl (by decide) rfl (.tmp 83) (.tmp 87) rfl w1.heap.size _ N _ rfl HW.out _ _ 1 1 [(true,(k:Int))] rfl HO.out hN1 hsz ?_;intro A' k' c' w' HK HA)
 go_roundw
 case rel=>exact⟨k+1,A',k',c',by go_num,rfl,HLK.out,by rw[HR.out];exact HA.out.own,(HB5.out.trans (HAL.out.mono HB5.out.size)).grown HA.out.grown hsz fun j hj=>(HW.out.lt j hj).1⟩
 case measure=>(
 have:=HLK.out
 simp[intOf]
 omega))
 have gb:(x.b==(f:Int))=false:=by rw[beq_eq_false_iff_ne];exact hb
 have HR:=Hd (Zmv (S:=S) (z:=z) (i:=i) (k:=k) fun e=>by
  rcases HHA.out.2 e with h|h|h
  ·exact hu h
  ·exact hd h
  ·exact hb h)
 clear hu hd hb HHA hN1
 refine wro [0,1,2,3,4,5,6,7,8,9,10,11,12,13,14,15,16,17,18,19,20,21,22,23,24,25,26,27,28,29,30,31,32,33] [] 34 (fun W=>W.cell? ⟨b,o+k*3,none⟩=some (.int .i64 x.u)∧W.cell? ⟨b,o+k*3+1,none⟩=some (.int .i64 x.d)∧W.cell? ⟨b,o+k*3+2,none⟩=some (.int .i64 x.b)∧W.cell? ⟨g1,q1+i,none⟩=some (.int .i64 (f:Int))) (by kernel_rfl) (fun _ _ _ _ _ h=>h) ⟨Za u0 (Below.refl _ _).drew,Za u1 (Below.refl _ _).drew,Za u2 (Below.refl _ _).drew,Za f0 (Below.refl _ _).drew⟩ ?_
 simp only[steps,sE,sD]
 repeat((first|refine Zf rfl ?_|(refine Zd (v:= ?_) rfl rfl ?_ ?_;rotate_left;(focus(rintro w' ⟨x0,x1,x2,x3⟩;go_simp;try with_reducible rfl))));simp only[Act.put,sA,sB,sC])
 refine Zg ?_
 have HB5:=Hd (HBW.out.trans ((Below.refl wr.heap.size wr).drew.mono HBW.out.size))
 have HOWN5:=Hd (Zi HOWN.out (Below.refl wr.heap.size wr).drew)
 generalize World.drew _=w5 at*
 clear u0 u1 u2 f0 HBW HOWN
 go_wp2_with fail
 go_roundw
 case rel=>exact⟨k+1,A,N,c,by go_num,rfl,HLK.out,by rw[HR.out];exact HOWN5.out,HB5.out⟩
 case measure=>(
 have:=HLK.out
 simp[intOf]
 omega))
 case neg=>(
 obtain rfl:NN=k:=by omega
 have HO:Hid (wr.ownsRow w1.heap.size 62 2 (.slice A N c) N (((List.range (i+1)).map (trm S z)).flatMap tmc)):=Hd (by
 rw[← Zlf HFX.out HNM.out]
 exact hown)
 have HBW:=Hd hb
 clear hlk hk hown hb
 go_wp2_with fail
 go_roundw
 case rel=>exact⟨i+1,A,N,c,by go_num,rfl,HLT.out,HO.out,HBW.out⟩
 case measure=>(
 have:=HLT.out
 simp[intOf]
 omega)))))
 case neg=>(
 obtain rfl:k3=i:=by omega
 have HO:Hid (wr.ownsRow w.heap.size 62 2 (.slice A N c) N ((trmL S z).flatMap tmc)):=Hd (by
 unfold trmL
 rw[if_pos HR0.out,HLEN.out]
 exact Va hown HB1.out.size)
 have HBF:=Hd (HB1.out.trans (hb.mono HB1.out.size))
 have HTN:Hid (trmN S z=NN):=Hd (by
 unfold trmN
 rw[if_pos HR0.out,HNV.out])
 clear hlt hi hown hb
 go_wp2_with fail
 go_ret2
 exact⟨A,N,c,by rw[HTN.out];rfl,HO.out,HBF.out⟩))
end Go.Proofs.YtmejhedegmjboaaGreat.I
