import Derived.Test.YtmejhedegmjboaaGreatPnE
import Derived.Test.YtmejhedegmjboaaGreatTd4
set_option maxRecDepth 100000
set_option maxHeartbeats 32000000
namespace Go.Proofs.YtmejhedegmjboaaGreat.I
open Go.RowKit PaC
theorem Zm4 (c:Cfg)(P Q:List Nat)(s:Cfg.Ps)(k:Nat)(h:k < (c.vnB P Q++Cfg.vnD s).length):(k < (c.cls 2).length∧(c.vnB P Q++Cfg.vnD s)[k].b=(((c.cls 2).getD k 0:Nat):Int)∧(c.cls 2).getD k 0 < c.n)∨((c.cls 2).length≤k∧(c.vnB P Q++Cfg.vnD s)[k].b= -1):=by
 by_cases hk:k < (c.cls 2).length
 ·left
  have hgd:(c.cls 2).getD k 0=(c.cls 2)[k]:=by rw[List.getD_eq_getElem?_getD,List.getElem?_eq_getElem hk];rfl
  rw[hgd,List.getElem_append_left (by rw[Z8];exact hk),U5 hk]
  exact⟨hk,rfl,(Zt.1 (List.getElem_mem hk)).1⟩
 ·(
 right
 rw[List.getElem_append_right (by rw[Z8];omega)]
 refine⟨by omega,?_⟩
 unfold Cfg.vnD
 rw[List.getElem_map])
theorem Zih {g c:Nat}:QI (some ⟨g,0,none⟩) 0 c 1=some ⟨g,0,none⟩:=by
 unfold QI
 split <;> simp[Addr.add]
theorem Zii {g c k:Nat}:QI (some ⟨g,0,none⟩) (k+1) c 1=if c=k+1 then some ⟨g,0,none⟩ else some ⟨g,k+1,none⟩:=by
 unfold QI
 split <;> simp[Addr.add]
structure Ask (c:Cfg)(wa:World)(vw:Value)(n b1 q1 b2 q2 p0 o0:Nat):Prop where
 f: ∀i < n,wa.cell? ⟨b1,q1+i,none⟩=some (.int .i64 (c.first i:Int))
 x: ∀i < n,wa.cell? ⟨b2,q2+i,none⟩=some (.bool (c.fx i))
 s: ∀i < n,wa.cell? ⟨p0,o0+i*5+2,none⟩=some (.int .u8 (c.sd i:Int))
 si: ∀W,Below wa.heap.size wa W→ ∀a b:Nat,a < n→b < n→Calls Tryz.prog 108 #[vw,.int .i64 (a:Int),.int .i64 (b:Int)] W fun e w'=>e= .returned (.bool (c.si a b))∧Below W.heap.size W w'
 so: ∀W,Below wa.heap.size wa W→ ∀a b:Nat,a < n→b < n→Calls Tryz.prog 109 #[vw,.int .i64 (a:Int),.int .i64 (b:Int)] W fun e w'=>e= .returned (.bool (c.so a b))∧Below W.heap.size W w'
 fit: ∀W,Below wa.heap.size wa W→ ∀a b:Nat,a < n→b < n→Calls Tryz.prog 110 #[vw,.int .i64 (a:Int),.int .i64 (b:Int)] W fun e w'=>e= .returned (.bool (c.fit a b))∧Below W.heap.size W w'
theorem Zej (t:Nat)(B:Option Addr)(m d q n c1 c2 c3 c4 p0 o0 p1 o1 p2 o2 p4 o4:Nat)(C:Cfg)(b1 q1 e1 b2 q2 e2:Nat)(w:World)(hC:C.n=n)(hn:n≤1000)(h:Ask C (w.alloc (.cells #[.int .i64 (t:Int),.slice B m d,.int .i64 (q:Int),.slice (some ⟨p0,o0,none⟩) n c1,.slice (some ⟨p1,o1,none⟩) n c2,.slice (some ⟨p2,o2,none⟩) n c3,.slice (some ⟨p4,o4,none⟩) n c4] 93)) (vwV t B m d q n c1 c2 c3 c4 p0 o0 p1 o1 p2 o2 p4 o4) n b1 q1 b2 q2 p0 o0):
  Calls Tryz.prog 65 #[vwV t B m d q n c1 c2 c3 c4 p0 o0 p1 o1 p2 o2 p4 o4,.slice (some ⟨b1,q1,none⟩) n e1,.slice (some ⟨b2,q2,none⟩) n e2] w fun e w'=> ∃A N c,e= .returned (.slice A N c)∧w'.ownsRow w.heap.size 95 3 (.slice A N c) N (C.sorted.flatMap ndC)∧Below w.heap.size w w':=by
 have hz:=VB.of (heap_alloc_new w (.cells #[.int .i64 (t:Int),.slice B m d,.int .i64 (q:Int),.slice (some ⟨p0,o0,none⟩) n c1,.slice (some ⟨p1,o1,none⟩) n c2,.slice (some ⟨p2,o2,none⟩) n c3,.slice (some ⟨p4,o4,none⟩) n c4] 93))
 have hal:Below w.heap.size w (w.alloc (.cells #[.int .i64 (t:Int),.slice B m d,.int .i64 (q:Int),.slice (some ⟨p0,o0,none⟩) n c1,.slice (some ⟨p1,o1,none⟩) n c2,.slice (some ⟨p2,o2,none⟩) n c3,.slice (some ⟨p4,o4,none⟩) n c4] 93)):=bA
 have HZ:=Hd hz
 have HW0:=Hd hal
 have HQ:=Hd h
 have HN:=Hd hn
 have HCN:=Hd hC
 clear hz hal h hn hC
 unfold vwV at HQ ⊢
 go_enter Tryz.func65,Tryz.ntmps65
 go_wp2_with fail
 generalize w.alloc (.cells #[.int .i64 (t:Int),.slice B m d,.int .i64 (q:Int),.slice (some ⟨p0,o0,none⟩) n c1,.slice (some ⟨p1,o1,none⟩) n c2,.slice (some ⟨p2,o2,none⟩) n c3,.slice (some ⟨p4,o4,none⟩) n c4] 93)=wa at*
 go_loopw [7,8] (fun v7 v8 wr=> ∃(i:Nat) (A:Option Addr) (N c:Nat),v8= .int .i64 (i:Int)∧v7= .slice A N c∧i≤n∧wr.ownsRow wa.heap.size 95 3 (.slice A N c) N (((clF C 2 i).map bN).flatMap ndC)∧Below wa.heap.size wa wr) (fun _ v8 _=>n - (intOf v8).toNat)
 case atStart=>exact⟨0,none,0,0,rfl,rfl,Nat.zero_le _,World.ownsRow_nil _ _ _ _,Below.refl _ _⟩
 case round=>(
 obtain⟨i,A,N,c,rfl,rfl,hi,hown,hb⟩:=hrel
 by_cases hlt:i < n
 ·(
 have HLT:=Hd hlt
 have HB:=Hd hb
 have HOWN:=Hd hown
 have hin:(i:Int) < (n:Int):=by omega
 have hi9:i≤1000:=by have:=HN.out;omega
 have a0:=Za (HQ.out.f i hlt) hb
 have a1:=Za (HQ.out.x i hlt) hb
 have a2:=Za (HQ.out.s i hlt) hb
 have hz:=HZ.out.keep hb
 have z0:=hz.z0
 have hN1:N+1≤100000:=by(
 have h1:=Zl ZC (by decide) hown
 rw[List.length_map] at h1
 have:=Zbd C 2 i
 omega)
 have HF:=Hd (@is_f C 2 i)
 have HX:=Hd (@is_x C 2 i)
 have HS:=Hd (@is_s C 2 i)
 have HI:Hid (C.first i=i→C.fx i=false→C.sd i=2→C.is 2 i=true):=Hd fun e1 e2 e3=>UK.2 ⟨e1,e2,e3⟩
 generalize C.first i=f at*
 generalize C.fx i=x at*
 generalize C.sd i=s at*
 clear hlt hi hb hown hz
 by_cases hf:f=i
 ·(
 have gf:((f:Int)==(i:Int))=true:=by rw[beq_iff_eq];omega
 cases x with
 |true=>(
 have HR:=Hd (UH (HX.out rfl))
 clear hN1
 go_wp2_with fail
 go_roundw
 case rel=>exact⟨i+1,A,N,c,by go_num,rfl,HLT.out,by rw[HR.out];exact HOWN.out,HB.out⟩
 case measure=>(
 have:=HLT.out
 simp[intOf]
 omega))
 |false=>(
 by_cases hs:s=2
 ·(
 have gs:((s:Int)==(2:Int))=true:=by rw[beq_iff_eq];omega
 have HR:=Hd (Uf (HI.out hf rfl hs))
 clear hf hs
 have HO:=Hd (show Rs ndC 3 (wr.alloc (.cells #[.int .i64 (-1),.int .i64 (-1),.int .i64 (i:Int)] 95)) (wr.alloc (.cells #[.int .i64 (-1),.int .i64 (-1),.int .i64 (i:Int)] 95)).heap.size (some ⟨wr.heap.size,0,none⟩) 1 1 [⟨-1,-1,(i:Int)⟩] from Rs.of_blk ZC (heap_alloc_new wr _) ⟨[],rfl⟩ rfl lR (by unfold maxLen;omega))
 have HAL:=Hd (show Below wr.heap.size wr (wr.alloc (.cells #[.int .i64 (-1),.int .i64 (-1),.int .i64 (i:Int)] 95)) from bA)
 have HW:=Hd (Zi HOWN.out HAL.out)
 have hsz:wa.heap.size≤(wr.alloc (.cells #[.int .i64 (-1),.int .i64 (-1),.int .i64 (i:Int)] 95)).heap.size:=Nat.le_trans HB.out.size HAL.out.size
 go_wp2_with (at_builtin;refine Zk ZC (by decide) Qh Tryz.underlying89 Zbc rfl (by decide) rfl (.tmp 51) (.tmp 54) rfl wa.heap.size _ N _ rfl HW.out _ _ 1 1 [⟨-1,-1,(i:Int)⟩] rfl HO.out hN1 hsz ?_;intro A' k' c' w' HK HA)
 go_roundw
 case rel=>exact⟨i+1,A',k',c',by go_num,rfl,HLT.out,by rw[HR.out,List.map_append];exact HA.out.own,(HB.out.trans (HAL.out.mono HB.out.size)).grown HA.out.grown hsz fun j hj=>(HW.out.lt j hj).1⟩
 case measure=>(
 have:=HLT.out
 simp[intOf]
 omega))
 ·(
 have gs:((s:Int)==(2:Int))=false:=by rw[beq_eq_false_iff_ne];omega
 have HR:=Hd (UH (HS.out hs))
 clear hN1 hf hs
 go_wp2_with fail
 go_roundw
 case rel=>exact⟨i+1,A,N,c,by go_num,rfl,HLT.out,by rw[HR.out];exact HOWN.out,HB.out⟩
 case measure=>(
 have:=HLT.out
 simp[intOf]
 omega))))
 ·(
 have gf:((f:Int)==(i:Int))=false:=by rw[beq_eq_false_iff_ne];omega
 have HR:=Hd (UH (HF.out hf))
 clear hN1 hf
 go_wp2_with fail
 go_roundw
 case rel=>exact⟨i+1,A,N,c,by go_num,rfl,HLT.out,by rw[HR.out];exact HOWN.out,HB.out⟩
 case measure=>(
 have:=HLT.out
 simp[intOf]
 omega)))
 ·(
 obtain rfl:n=i:=by omega
 have HB1:=Hd hb
 have HOWN1:Hid (wr.ownsRow wa.heap.size 95 3 (.slice A N c) N ((C.vnB [] []).flatMap ndC)):=Hd (by
 rw[← Zke]
 have e:clF C 2 n=C.cls 2:=by rw[← HCN.out];rfl
 rw[← e]
 exact hown)
 have HNB:Hid ((C.cls 2).length=N):=Hd (by rw[← Z8 (c:=C) (P:= []) (Q:= [])];exact Zl ZC (by decide) HOWN1.out)
 clear hlt hi hb hown
 obtain⟨w1,rfl⟩: ∃w1,w1=wr:=⟨_,rfl⟩
 go_wp2_with fail
 go_loopw [9,10] (fun v9 v10 wr=> ∃(i:Nat) (X:Option Addr) (nx cx:Nat),v10= .int .i64 (i:Int)∧v9= .slice X nx cx∧i≤n∧wr.ownsRow wa.heap.size 95 3 (.slice A N c) N ((C.vnB (clF C 0 i) []).flatMap ndC)∧wr.ownsRow wa.heap.size 3 1 (.slice X nx cx) nx ((upF C i).flatMap en3)∧Below wa.heap.size wa wr) (fun _ v10 _=>n - (intOf v10).toNat)
 case atStart=>exact⟨0,none,0,0,rfl,rfl,Nat.zero_le _,HOWN1.out,World.ownsRow_nil _ _ _ _,HB1.out⟩
 case round=>(
 obtain⟨i,X,nx,cx,rfl,rfl,hi,hown,hownx,hb⟩:=hrel
 by_cases hlt:i < n
 case pos=>(
 have HLT:=Hd hlt
 have HB:=Hd hb
 have HOWN:=Hd hown
 have HOWX:=Hd hownx
 have hin:(i:Int) < (n:Int):=by omega
 have hi9:i≤1000:=by have:=HN.out;omega
 have a0:=Za (HQ.out.f i hlt) hb
 have a1:=Za (HQ.out.x i hlt) hb
 have a2:=Za (HQ.out.s i hlt) hb
 have hz:=HZ.out.keep hb
 have z0:=hz.z0
 have HF:=Hd (@is_f C 0 i)
 have HX:=Hd (@is_x C 0 i)
 have HS:=Hd (@is_s C 0 i)
 have HI:Hid (C.first i=i→C.fx i=false→C.sd i=0→C.is 0 i=true):=Hd fun e1 e2 e3=>UK.2 ⟨e1,e2,e3⟩
 generalize C.first i=f at*
 generalize C.fx i=x at*
 generalize C.sd i=s at*
 clear hlt hi hb hown hownx hz
 by_cases hf:f=i
 case neg=>(
 have gf:((f:Int) !=(i:Int))=true:=by rw[bne_iff_ne];omega
 have HR:=Hd (HF.out hf)
 clear hf
 go_wp2_with fail
 go_roundw
 case rel=>exact⟨i+1,X,nx,cx,by go_num,rfl,HLT.out,by rw[UH HR.out];exact HOWN.out,by rw[Zfq HR.out];exact HOWX.out,HB.out⟩
 case measure=>(
 have:=HLT.out
 simp[intOf]
 omega))
 have gf:((f:Int) !=(i:Int))=false:=by rw[hf];simp
 cases x with
 |true=>(
 have HR:=Hd (HX.out rfl)
 clear hf
 go_wp2_with fail
 go_roundw
 case rel=>exact⟨i+1,X,nx,cx,by go_num,rfl,HLT.out,by rw[UH HR.out];exact HOWN.out,by rw[Zfq HR.out];exact HOWX.out,HB.out⟩
 case measure=>(
 have:=HLT.out
 simp[intOf]
 omega))
 |false=>(
 by_cases hs:s=0
 case neg=>(
 have gs:((s:Int) !=(0:Int))=true:=by rw[bne_iff_ne];omega
 have HR:=Hd (HS.out hs)
 clear hf hs
 go_wp2_with fail
 go_roundw
 case rel=>exact⟨i+1,X,nx,cx,by go_num,rfl,HLT.out,by rw[UH HR.out];exact HOWN.out,by rw[Zfq HR.out];exact HOWX.out,HB.out⟩
 case measure=>(
 have:=HLT.out
 simp[intOf]
 omega))
 have gs:((s:Int) !=(0:Int))=false:=by rw[hs];simp
 have HIS:=Hd (HI.out hf rfl hs)
 clear hf hs HF HX HS HI
 go_wp2_with fail
 clear a0 a1 a2 z0
 obtain⟨wo,rfl⟩: ∃wo,wo=wr:=⟨_,rfl⟩
 go_loopw [11,12] (fun v11 v12 wr=> ∃k:Nat,v12= .int .i64 (k:Int)∧k≤N∧Rw (fun j=>C.si i ((C.cls 2).getD j 0)) v11 k∧Below wo.heap.size wo wr) (fun _ v12 _=>N - (intOf v12).toNat)
 case atStart=>exact⟨0,rfl,Nat.zero_le _,Rw.zero _,Below.refl _ _⟩
 case round=>(
 obtain⟨k,rfl,hk,hst,hbr⟩:=hrel
 have HBR:=Hd hbr
 have HB9:=Hd (HB.out.trans (hbr.mono HB.out.size))
 have HOWN9:=Hd (Zi HOWN.out hbr)
 have HOWX9:=Hd (Zi HOWX.out hbr)
 have hz:=HZ.out.keep HB9.out
 have HNB1:=HNB.out
 have hk9:k≤1000:=by have:=HN.out;have:=Zfr C 2;have:=HCN.out;omega
 rcases hst with⟨rfl,hno⟩|⟨m,rfl,rfl,hm,hno⟩
 ·(
 have HNO:=Hd hno
 by_cases hlk:k < N
 ·(
 have HLK:=Hd hlk
 have hkn:(k:Int) < (N:Int):=by omega
 have hkl:k < (C.vnB (clF C 0 i) []).length:=by rw[Z8];omega
 obtain⟨g,rfl,-,-,hcl,-⟩:=Rt ZC (by decide) HOWN9.out hkl
 have hkc:k < (C.cls 2).length:=by omega
 have u2:=hcl 2 _ rfl
 rw[U5 hkc] at u2
 have hgd:(C.cls 2).getD k 0=(C.cls 2)[k]:=by rw[List.getD_eq_getElem?_getD,List.getElem?_eq_getElem hkc];rfl
 have hbn:=(Zt.1 (List.getElem_mem hkc)).1
 rw[← hgd,HCN.out] at hbn
 simp only at u2
 rw[← hgd] at u2
 obtain⟨bk,hbk⟩: ∃x,(C.cls 2).getD k 0=x:=⟨_,rfl⟩
 rw[hbk] at u2 hbn
 have HBN:=Hd hbn
 have HBK:=Hd hbk
 clear hkl hcl hkc hgd hbn hbk hlk hk hno HNB1
 have z0:=hz.s0
 go_wp2_with fail
 clear z0
 refine wro [0,1,2,3,4,5,6,7] [7] 8 (fun W=>VB W w.heap.size t B m d q n c1 c2 c3 c4 p0 o0 p1 o1 p2 o2 p4 o4∧W.cell? ⟨g,k*3+2,none⟩=some (.int .i64 (bk:Int))) (by kernel_rfl) (fun _ _ _ _ _ h=>h) ⟨hz.keep (Below.refl _ _).drew,Za u2 (Below.refl _ _).drew⟩ ?_
 simp only[steps,sE,sD]
 repeat((first|refine Zf rfl ?_|(refine Zd (v:= ?_) rfl rfl ?_ ?_;rotate_left;(focus(rintro w' ⟨⟨x0,x1,x2,x3,x4,x5,x6⟩,y0⟩;go_simp;try with_reducible rfl))));simp only[Act.put,sA,sB,sC])
 have HBD:=Hd ((Below.refl wr.heap.size wr).drew)
 generalize World.drew _=wd at*
 refine Ze rfl rfl (fun K hK=> ?_)
 go_simp
 refine(HQ.out.si wd (HB9.out.trans (HBD.out.mono HB9.out.size)) i bk HLT.out HBN.out).mono ?_
 rintro e w4 ⟨rfl,hv⟩
 have HB4:=Hd (HBD.out.trans (hv.mono HBD.out.size))
 refine hK.out _ _ (fun _=>⟨hz.keep HB4.out,Za u2 HB4.out⟩) ?_
 clear hK K hv
 try simp only[Act.put,sA,sB,sC]
 refine Zg ?_
 have HB5:=Hd (HBR.out.trans (HB4.out.mono HBR.out.size))
 obtain⟨r,hr⟩: ∃x,C.si i bk=x:=⟨_,rfl⟩
 rw[hr]
 have HRR:=Hd hr
 clear hr u2 hz
 cases r with
 |true=>(
 go_wp2_with fail
 go_roundw
 case rel=>exact⟨k+1,by go_num,HLK.out,.inr ⟨k,rfl,rfl,by show C.si i ((C.cls 2).getD k 0)=true;rw[HBK.out];exact HRR.out,HNO.out⟩,HB5.out⟩
 case measure=>(
 have:=HLK.out
 simp[intOf]
 omega))
 |false=>(
 go_wp2_with fail
 go_roundw
 case rel=>exact⟨k+1,by go_num,HLK.out,.inl ⟨rfl,fun j hj=>by
   by_cases e:j=k
   ·subst e;show C.si i ((C.cls 2).getD j 0)=false;rw[HBK.out];exact HRR.out
   ·exact HNO.out j (by omega)⟩,HB5.out⟩
 case measure=>(
 have:=HLK.out
 simp[intOf]
 omega)))
 ·(
 have hnk: ¬(k:Int) < (N:Int):=by omega
 have HMG:Hid (C.mg C.si i=none):=Hd (Zi7 fun j hj=>HNO.out j (by omega))
 have hN1:nx+1≤100000:=by(
 have h1:=Zl Zz (by decide) HOWX9.out
 have:=ZlF C i
 omega)
 have HR1:Hid (clF C 0 (i+1)=clF C 0 i++ [i]):=Hd (Uf HIS.out)
 have HR2:Hid (upF C (i+1)=upF C i++ [i]):=Hd (Zkf HIS.out HMG.out)
 clear hlk hk hno hz HNB1
 have HO:=Hd (show Rs en3 1 (wr.alloc (.cells #[.int .i64 (i:Int)] 3)) (wr.alloc (.cells #[.int .i64 (i:Int)] 3)).heap.size (some ⟨wr.heap.size,0,none⟩) 1 1 [i] from Rs.of_blk Zz (heap_alloc_new wr _) ⟨[],rfl⟩ rfl lR (by unfold maxLen;omega))
 have HAL:=Hd (show Below wr.heap.size wr (wr.alloc (.cells #[.int .i64 (i:Int)] 3)) from bA)
 have HW:=Hd (Zi HOWX9.out HAL.out)
 have hsz:wa.heap.size≤(wr.alloc (.cells #[.int .i64 (i:Int)] 3)).heap.size:=Nat.le_trans HB9.out.size HAL.out.size
 go_wp2_with (at_builtin;refine Zk Zz (by decide) Y2 Tryz.underlying82 Y3 rfl (by decide) rfl (.tmp 105) (.tmp 107) rfl wa.heap.size _ nx _ rfl HW.out _ _ 1 1 [i] rfl HO.out hN1 hsz ?_;intro A' k' c' w' HK HA)
 go_roundw
 case rel=>exact⟨i+1,A',k',c',by go_num,rfl,HLT.out,by rw[HR1.out,ZhW HMG.out];exact Yi (Zi HOWN9.out HAL.out) HA.out.grown (VX (Zi HOWN9.out HAL.out) HW.out (by decide)),by rw[HR2.out];exact HA.out.own,(HB9.out.trans (HAL.out.mono HB9.out.size)).grown HA.out.grown hsz fun j hj=>(HW.out.lt j hj).1⟩
 case measure=>(
 have:=HLT.out
 simp[intOf]
 omega)))
 ·(
 have hmc:m < (C.cls 2).length:=by omega
 have HMG:Hid (C.mg C.si i=some (C.cls 2)[m]):=Hd (ZlI hmc hm hno)
 have hml:m < (C.vnB (clF C 0 i) []).length:=by rw[Z8];exact hmc
 obtain⟨g,rfl,hg1,hg2,hcl,hfz⟩:=Rt ZC (by decide) HOWN9.out hml
 have u0:=hcl 0 _ rfl
 have HST:Hid ((wr.setCell ⟨g,m*3,none⟩ (.int .i64 (i:Int))).ownsRow wa.heap.size 95 3 (.slice (some ⟨g,0,none⟩) N c) N ((C.vnB (clF C 0 (i+1)) []).flatMap ndC)):=Hd (by
 rw[Uf HIS.out, ← ZlT hmc HMG.out]
 exact ZcV ZC HOWN9.out hml (i:=0) (by decide) rfl)
 have HSX:Hid ((wr.setCell ⟨g,m*3,none⟩ (.int .i64 (i:Int))).ownsRow wa.heap.size 3 1 (.slice X nx cx) nx ((upF C (i+1)).flatMap en3)):=Hd (by
 rw[ZhC HIS.out HMG.out]
 exact Zfp HOWX9.out (VX HOWN9.out HOWX9.out (by decide) g rfl))
 have HSB:Hid (Below wa.heap.size wa (wr.setCell ⟨g,m*3,none⟩ (.int .i64 (i:Int)))):=Hd (HB9.out.setCell (p:=⟨g,m*3,none⟩) hg1 _)
 have f0:=hfz (m*3)
 have hmN:(m:Int) < (N:Int):=by omega
 have hm9:m≤1000:=by omega
 generalize hx0:(C.vnB (clF C 0 i) [])[m]=x0 at u0
 replace u0:wr.cell? ⟨g,m*3,none⟩=some (.int .i64 x0.u):=u0
 clear HMG hmc hml hcl hfz hg1 hg2 hm hno hz HNB1 hx0
 by_cases hlk:m+1 < N
 ·(
 have hkn:((m+1:Nat):Int) < (N:Int):=by omega
 clear hlk hk
 go_wp2_with fail
 go_roundw
 case rel=>exact⟨i+1,X,nx,cx,by go_num,rfl,HLT.out,HST.out,HSX.out,HSB.out⟩
 case measure=>(
 have:=HLT.out
 simp[intOf]
 omega))
 ·(
 have hkn: ¬((m+1:Nat):Int) < (N:Int):=by omega
 clear hlk hk
 go_wp2_with fail
 go_roundw
 case rel=>exact⟨i+1,X,nx,cx,by go_num,rfl,HLT.out,HST.out,HSX.out,HSB.out⟩
 case measure=>(
 have:=HLT.out
 simp[intOf]
 omega))))))
 case neg=>(
 obtain rfl:n=i:=by omega
 have HB2:=Hd hb
 have HOWN2:Hid (wr.ownsRow wa.heap.size 95 3 (.slice A N c) N ((C.vnB (C.cls 0) []).flatMap ndC)):=Hd (by
 have e:clF C 0 n=C.cls 0:=by rw[← HCN.out];rfl
 rw[← e]
 exact hown)
 have HOWX2:Hid (wr.ownsRow wa.heap.size 3 1 (.slice X nx cx) nx ((C.left []).flatMap en3)):=Hd (by
 rw[← Zkg,HCN.out]
 exact hownx)
 clear hlt hi hb hown hownx HOWN1 HB1
 obtain⟨w2,rfl⟩: ∃w2,w2=wr:=⟨_,rfl⟩
 go_wp2_with fail
 go_loopw [7,9,13] (fun v7 v9 v13 wr=> ∃(i:Nat) (A:Option Addr) (N c:Nat) (X:Option Addr) (nx cx:Nat),v13= .int .i64 (i:Int)∧v7= .slice A N c∧v9= .slice X nx cx∧i≤n∧wr.ownsRow wa.heap.size 95 3 (.slice A N c) N ((C.vnB (C.cls 0) (clF C 1 i)++Cfg.vnD (psF C i)).flatMap ndC)∧wr.ownsRow wa.heap.size 3 1 (.slice X nx cx) nx ((C.left (psF C i)).flatMap en3)∧Below wa.heap.size wa wr) (fun _ _ v13 _=>n - (intOf v13).toNat)
 case atStart=>exact⟨0,A,N,c,X,nx,cx,rfl,rfl,rfl,Nat.zero_le _,by rw[show C.vnB (C.cls 0) (clF C 1 0)++Cfg.vnD (psF C 0)=C.vnB (C.cls 0) [] from List.append_nil _];exact HOWN2.out,HOWX2.out,HB2.out⟩
 case round=>(
 clear HNB HOWN2 HOWX2 HB2
 obtain⟨i,A,N,c,X,nx,cx,rfl,rfl,rfl,hi,hown,hownx,hb⟩:=hrel
 by_cases hlt:i < n
 case pos=>(
 have HLT:=Hd hlt
 have HB:=Hd hb
 have HOWN:=Hd hown
 have HOWX:=Hd hownx
 have hin:(i:Int) < (n:Int):=by omega
 have hi9:i≤1000:=by have:=HN.out;omega
 have a0:=Za (HQ.out.f i hlt) hb
 have a1:=Za (HQ.out.x i hlt) hb
 have a2:=Za (HQ.out.s i hlt) hb
 have hz:=HZ.out.keep hb
 have z0:=hz.z0
 have HF:=Hd (@is_f C 1 i)
 have HX:=Hd (@is_x C 1 i)
 have HS:=Hd (@is_s C 1 i)
 have HI:Hid (C.first i=i→C.fx i=false→C.sd i=1→C.is 1 i=true):=Hd fun e1 e2 e3=>UK.2 ⟨e1,e2,e3⟩
 generalize C.first i=f at*
 generalize C.fx i=x at*
 generalize C.sd i=s at*
 clear hlt hi hb hown hownx hz
 by_cases hf:f=i
 case neg=>(
 have gf:((f:Int) !=(i:Int))=true:=by rw[bne_iff_ne];omega
 have HR:=Hd (HF.out hf)
 clear hf
 go_wp2_with fail
 go_roundw
 case rel=>exact⟨i+1,A,N,c,X,nx,cx,by go_num,rfl,rfl,HLT.out,by rw[UH HR.out,Ru HR.out];exact HOWN.out,by rw[Ru HR.out];exact HOWX.out,HB.out⟩
 case measure=>(
 have:=HLT.out
 simp[intOf]
 omega))
 have gf:((f:Int) !=(i:Int))=false:=by rw[hf];simp
 cases x with
 |true=>(
 have HR:=Hd (HX.out rfl)
 clear hf
 go_wp2_with fail
 go_roundw
 case rel=>exact⟨i+1,A,N,c,X,nx,cx,by go_num,rfl,rfl,HLT.out,by rw[UH HR.out,Ru HR.out];exact HOWN.out,by rw[Ru HR.out];exact HOWX.out,HB.out⟩
 case measure=>(
 have:=HLT.out
 simp[intOf]
 omega))
 |false=>(
 by_cases hs:s=1
 case neg=>(
 have gs:((s:Int) !=(1:Int))=true:=by rw[bne_iff_ne];omega
 have HR:=Hd (HS.out hs)
 clear hf hs
 go_wp2_with fail
 go_roundw
 case rel=>exact⟨i+1,A,N,c,X,nx,cx,by go_num,rfl,rfl,HLT.out,by rw[UH HR.out,Ru HR.out];exact HOWN.out,by rw[Ru HR.out];exact HOWX.out,HB.out⟩
 case measure=>(
 have:=HLT.out
 simp[intOf]
 omega))
 have gs:((s:Int) !=(1:Int))=false:=by rw[hs];simp
 have HIS:=Hd (HI.out hf rfl hs)
 clear hf hs HF HX HS HI
 go_wp2_with fail
 clear a0 a1 a2 z0
 obtain⟨wo,rfl⟩: ∃wo,wo=wr:=⟨_,rfl⟩
 have HLN:Hid ((C.vnB (C.cls 0) (clF C 1 i)++Cfg.vnD (psF C i)).length=N):=Hd (Zl ZC (by decide) HOWN.out)
 have HLX:Hid ((C.left (psF C i)).length=nx):=Hd (Zl Zz (by decide) HOWX.out)
 have HNX:Hid (nx≤1000):=Hd (by
 have:=HLX.out
 have:=left_le C (psF C i)
 have:=HCN.out
 have:=HN.out
 omega)
 have HN2:Hid (N≤2000):=Hd (by
 have h1:=HLN.out
 rw[List.length_append,Z8] at h1
 have h2:(Cfg.vnD (psF C i)).length=(psF C i).length:=by simp[Cfg.vnD]
 have:=Zi6 C i
 have:=Zfr C 2
 have:=HCN.out
 have:=HN.out
 omega)
 have HLB:=Hd (Zm4 C (C.cls 0) (clF C 1 i) (psF C i))
 go_loopw [14,15] (fun v14 v15 wr=> ∃k:Nat,v15= .int .i64 (k:Int)∧k≤N∧Rw (fun j=>decide (j < (C.cls 2).length) && C.so i ((C.cls 2).getD j 0)) v14 k∧Below wo.heap.size wo wr) (fun _ v15 _=>N - (intOf v15).toNat)
 case atStart=>exact⟨0,rfl,Nat.zero_le _,Rw.zero _,Below.refl _ _⟩
 case round=>(
 obtain⟨k,rfl,hk,hst,hbr⟩:=hrel
 have HBR:=Hd hbr
 have HB9:=Hd (HB.out.trans (hbr.mono HB.out.size))
 have HOWN9:=Hd (Zi HOWN.out hbr)
 have HOWX9:=Hd (Zi HOWX.out hbr)
 have hz:=HZ.out.keep HB9.out
 have hk9:k≤2000:=by have:=HN2.out;omega
 rcases hst with⟨rfl,hno⟩|⟨m,rfl,rfl,hm,hno⟩
 ·(
 have HNO:=Hd hno
 by_cases hlk:k < N
 ·(
 have HLK:=Hd hlk
 have hkn:(k:Int) < (N:Int):=by omega
 have hkl:k < (C.vnB (C.cls 0) (clF C 1 i)++Cfg.vnD (psF C i)).length:=by rw[HLN.out];exact hlk
 obtain⟨g,rfl,-,-,hcl,-⟩:=Rt ZC (by decide) HOWN9.out hkl
 have u2:=hcl 2 _ rfl
 have hlb:=HLB.out k hkl
 generalize (C.vnB (C.cls 0) (clF C 1 i)++Cfg.vnD (psF C i))[k]=xk at u2 hlb
 rcases hlb with⟨h1,h2,h3⟩|⟨h1,h2⟩
 ·(
 rw[h2] at u2
 rw[HCN.out] at h3
 obtain⟨bk,hbk⟩: ∃x,(C.cls 2).getD k 0=x:=⟨_,rfl⟩
 rw[hbk] at u2 h3
 have HBN:=Hd h3
 have HBK:=Hd hbk
 have HKC:=Hd h1
 have hge:(0:Int)≤(bk:Int):=by omega
 clear hkl hcl h1 h2 h3 hbk hlk hk hno
 have z0:=hz.s0
 go_wp2_with fail
 clear z0
 refine wro [0,1,2,3,4,5,6,7,8,9,10,11,12,13,14,15] [14] 16 (fun W=>VB W w.heap.size t B m d q n c1 c2 c3 c4 p0 o0 p1 o1 p2 o2 p4 o4∧W.cell? ⟨g,k*3+2,none⟩=some (.int .i64 (bk:Int))) (by kernel_rfl) (fun _ _ _ _ _ h=>h) ⟨hz.keep (Below.refl _ _).drew,Za u2 (Below.refl _ _).drew⟩ ?_
 simp only[steps,sE,sD]
 repeat((first|refine Zf rfl ?_|(refine Zd (v:= ?_) rfl rfl ?_ ?_;rotate_left;(focus(rintro w' ⟨⟨x0,x1,x2,x3,x4,x5,x6⟩,y0⟩;go_simp;try with_reducible rfl))));simp only[Act.put,sA,sB,sC])
 have HBD:=Hd ((Below.refl wr.heap.size wr).drew)
 generalize World.drew _=wd at*
 refine Ze rfl rfl (fun K hK=> ?_)
 go_simp
 refine(HQ.out.so wd (HB9.out.trans (HBD.out.mono HB9.out.size)) i bk HLT.out HBN.out).mono ?_
 rintro e w4 ⟨rfl,hv⟩
 have HB4:=Hd (HBD.out.trans (hv.mono HBD.out.size))
 refine hK.out _ _ (fun _=>⟨hz.keep HB4.out,Za u2 HB4.out⟩) ?_
 clear hK K hv
 try simp only[Act.put,sA,sB,sC]
 obtain⟨r,hr⟩: ∃x,C.so i bk=x:=⟨_,rfl⟩
 rw[hr]
 have HRR:=Hd hr
 clear hr
 repeat((first|refine Zf rfl ?_|(refine Zd (v:= ?_) rfl rfl ?_ ?_;rotate_left;(focus(rintro w' ⟨⟨x0,x1,x2,x3,x4,x5,x6⟩,y0⟩;go_simp;try with_reducible rfl))));simp only[Act.put,sA,sB,sC])
 refine Zg ?_
 have HB5:=Hd (HBR.out.trans (HB4.out.mono HBR.out.size))
 clear u2 hz
 cases r with
 |true=>(
 go_wp2_with fail
 go_roundw
 case rel=>exact⟨k+1,by go_num,HLK.out,.inr ⟨k,rfl,rfl,by simp only[decide_eq_true HKC.out,Bool.true_and,HBK.out];exact HRR.out,HNO.out⟩,HB5.out⟩
 case measure=>(
 have:=HLK.out
 simp[intOf]
 omega))
 |false=>(
 go_wp2_with fail
 go_roundw
 case rel=>exact⟨k+1,by go_num,HLK.out,.inl ⟨rfl,fun j hj=>by
   by_cases e:j=k
   ·subst e;simp only[decide_eq_true HKC.out,Bool.true_and,HBK.out];exact HRR.out
   ·exact HNO.out j (by omega)⟩,HB5.out⟩
 case measure=>(
 have:=HLK.out
 simp[intOf]
 omega)))
 ·(
 rw[h2] at u2
 have HKC:=Hd h1
 clear hkl hcl h1 h2 hlk hk hno
 have z0:=hz.s0
 go_wp2_with fail
 clear z0
 refine wro [0,1,2,3,4,5,6,7,8,9,10,11,12,13,14,15] [14] 16 (fun W=>VB W w.heap.size t B m d q n c1 c2 c3 c4 p0 o0 p1 o1 p2 o2 p4 o4∧W.cell? ⟨g,k*3+2,none⟩=some (.int .i64 (-1))) (by kernel_rfl) (fun _ _ _ _ _ h=>h) ⟨hz.keep (Below.refl _ _).drew,Za u2 (Below.refl _ _).drew⟩ ?_
 simp only[steps,sE,sD]
 repeat((first|refine Zf rfl ?_|(refine Zd (v:= ?_) rfl rfl ?_ ?_;rotate_left;(focus(rintro w' ⟨⟨x0,x1,x2,x3,x4,x5,x6⟩,y0⟩;go_simp;try with_reducible rfl))));simp only[Act.put,sA,sB,sC])
 refine Zg ?_
 have HB5:=Hd (HBR.out.trans ((Below.refl wr.heap.size wr).drew.mono HBR.out.size))
 generalize World.drew _=wd at*
 clear u2 hz
 go_wp2_with fail
 go_roundw
 case rel=>exact⟨k+1,by go_num,HLK.out,.inl ⟨rfl,fun j hj=>by
   by_cases e:j=k
   ·subst e;simp only[decide_eq_false (show ¬j < (C.cls 2).length by have:=HKC.out;omega),Bool.false_and]
   ·exact HNO.out j (by omega)⟩,HB5.out⟩
 case measure=>(
 have:=HLK.out
 simp[intOf]
 omega)))
 ·(
 have hnk: ¬(k:Int) < (N:Int):=by omega
 have HMG:Hid (C.mg C.so i=none):=Hd (Zi7 fun j hj=>by
  have h1:=HLN.out
  rw[List.length_append,Z8] at h1
  have:=HNO.out j (by omega)
  simp only[decide_eq_true hj,Bool.true_and] at this
  exact this)
 have HR1:Hid (C.vnB (C.cls 0) (clF C 1 (i+1))=C.vnB (C.cls 0) (clF C 1 i)):=Hd (by rw[Uf HIS.out,ZfJ HMG.out])
 have HR2:=Hd (Zkh HIS.out HMG.out)
 have hN1:N+1≤100000:=by have:=HN2.out;omega
 clear hlk hk hno hz hk9
 have z3:=(HZ.out.keep HB9.out).s0
 go_wp2_with fail
 clear z3 hnk
 have hal:Below wr.heap.size wr (wr.alloc (.cells #[.int .i64 (-1),.int .i64 (i:Int),.int .i64 (-1)] 95)):=bA
 have hkb:=heap_alloc_new wr (.cells #[.int .i64 (-1),.int .i64 (i:Int),.int .i64 (-1)] 95)
 obtain⟨gb,hgb⟩: ∃gb,wr.heap.size=gb:=⟨_,rfl⟩
 rw[hgb] at hkb
 have HGB:Hid (wo.heap.size≤gb):=Hd (hgb▸HBR.out.size)
 generalize wr.alloc (.cells #[.int .i64 (-1),.int .i64 (i:Int),.int .i64 (-1)] 95)=wb at*
 have HKB:=Hd hkb
 have HOB:=Hd (HBR.out.trans (hal.mono HBR.out.size))
 try simp only[hgb]
 clear hal hkb HBR HB9 HOWN9 HOWX9 hgb
 go_loopw [9,17] (fun v9 v17 wr=> ∃k:Nat,v17= .int .i64 (k:Int)∧v9= .slice X nx cx∧k≤nx∧(∀j (_:j < k) (g:j < (C.left (psF C i)).length),C.fit i (C.left (psF C i))[j]=false)∧Below wb.heap.size wb wr) (fun _ v17 _=>nx - (intOf v17).toNat)
 case atStart=>exact⟨0,rfl,rfl,Nat.zero_le _,(fun j hj=>absurd hj (Nat.not_lt_zero j)),Below.refl _ _⟩
 case round=>(
 obtain⟨k,rfl,rfl,hk,hno,hbr⟩:=hrel
 have HNOF:=Hd hno
 have HBB:=Hd hbr
 have HBO:=Hd (HOB.out.trans (hbr.mono HOB.out.size))
 have HB9:=Hd (HB.out.trans (HBO.out.mono HB.out.size))
 have hz:=HZ.out.keep HB9.out
 have hk9:k≤1000:=by have:=HNX.out;omega
 by_cases hlk:k < nx
 ·(
 have HLK:=Hd hlk
 have hkn:(k:Int) < (nx:Int):=by omega
 have hkl:k < (C.left (psF C i)).length:=by rw[HLX.out];exact hlk
 obtain⟨gx,rfl,-,-,hcl,-⟩:=Rt Zz (by decide) (Zi HOWX.out HBO.out) hkl
 have u2:=hcl 0 _ rfl
 have HUK:Hid ((C.left (psF C i))[k] < n):=Hd (by
 have:=(List.mem_filter.1 (List.getElem_mem hkl)).1
 have:=(Zt.1 (ZW.1 this).1).1
 rw[HCN.out] at this
 exact this)
 have HSK:Hid (C.fit i (C.left (psF C i))[k]=true→C.seek (psF C i) i=some (C.left (psF C i))[k]∧C.left (psF C i++ [(i,some (C.left (psF C i))[k])])=(C.left (psF C i)).take k++(C.left (psF C i)).drop (k+1)):=Hd fun e=>⟨Zbl.trans (Zky hkl e fun j g=>HNOF.out j g (by omega)),ZhY hkl⟩
 have HFN:Hid (C.fit i (C.left (psF C i))[k]=false→ ∀j (_:j < k+1) (g:j < (C.left (psF C i)).length),C.fit i (C.left (psF C i))[j]=false):=Hd fun e j hj g=>by(
 by_cases ej:j=k
 ·subst ej;exact e
 ·exact HNOF.out j (by omega) g)
 generalize (C.left (psF C i))[k]=uk at*
 replace u2:wr.cell? ⟨gx,k,none⟩=some (.int .i64 (uk:Int)):=by(
 have:=u2
 rw[Nat.mul_one,Nat.add_zero] at this
 exact this)
 clear hkl hcl hlk hk hno HNOF
 have z0:=hz.s0
 go_wp2_with fail
 clear z0
 refine wro [0,1,2,3,4,5,6] [6] 7 (fun W=>VB W w.heap.size t B m d q n c1 c2 c3 c4 p0 o0 p1 o1 p2 o2 p4 o4∧W.cell? ⟨gx,k,none⟩=some (.int .i64 (uk:Int))) (by kernel_rfl) (fun _ _ _ _ _ h=>h) ⟨hz.keep (Below.refl _ _).drew,Za u2 (Below.refl _ _).drew⟩ ?_
 simp only[steps,sE,sD]
 repeat((first|refine Zf rfl ?_|(refine Zd (v:= ?_) rfl rfl ?_ ?_;rotate_left;(focus(rintro w' ⟨⟨x0,x1,x2,x3,x4,x5,x6⟩,y0⟩;go_simp;try with_reducible rfl))));simp only[Act.put,sA,sB,sC])
 have HBD:=Hd ((Below.refl wr.heap.size wr).drew)
 generalize World.drew _=wd at*
 refine Ze rfl rfl (fun K hK=> ?_)
 go_simp
 refine(HQ.out.fit wd (HB9.out.trans (HBD.out.mono HB9.out.size)) i uk HLT.out HUK.out).mono ?_
 rintro e w4 ⟨rfl,hv⟩
 have HB4:=Hd (HBD.out.trans (hv.mono HBD.out.size))
 refine hK.out _ _ (fun _=>⟨hz.keep HB4.out,Za u2 HB4.out⟩) ?_
 clear hK K hv
 try simp only[Act.put,sA,sB,sC]
 refine Zg ?_
 have HBO4:=Hd (HBO.out.trans (HB4.out.mono HBO.out.size))
 obtain⟨r,hr⟩: ∃x,C.fit i uk=x:=⟨_,rfl⟩
 rw[hr] at HSK HFN ⊢
 clear hr
 cases r with
 |false=>(
 have HBB4:=Hd (HBB.out.trans (HB4.out.mono HBB.out.size))
 have HF2:=Hd (HFN.out rfl)
 clear u2 hz
 go_wp2_with fail
 go_roundw
 case rel=>exact⟨k+1,by go_num,rfl,HLK.out,HF2.out,HBB4.out⟩
 case measure=>(
 have:=HLK.out
 simp[intOf]
 omega))
 |true=>(
 obtain⟨hs1,hs2⟩:=HSK.out rfl
 have HPS:Hid (psF C (i+1)=psF C i++ [(i,some uk)]):=Hd (by rw[HR2.out,hs1])
 have HLF:Hid (C.left (psF C (i+1))=(C.left (psF C i)).take k++(C.left (psF C i)).drop (k+1)):=Hd (by rw[HPS.out,hs2])
 have hk4:=(HBB.out.trans (HB4.out.mono HBB.out.size)).block gb (Zh HKB.out)
 rw[HKB.out] at hk4
 have y0:=(Zb (i:=0) hk4).trans rfl
 have fz0:w4.frozen? ⟨gb,0,none⟩=false:=Zc hk4
 have HK6:Hid ((w4.setCell ⟨gb,0,none⟩ (.int .i64 (uk:Int))).heap[gb]?=some (.cells #[.int .i64 (uk:Int),.int .i64 (i:Int),.int .i64 (-1)] 95 (0,0))):=Hd (Zm (i:=0) hk4 _)
 have HBO6:Hid (Below wo.heap.size wo (w4.setCell ⟨gb,0,none⟩ (.int .i64 (uk:Int)))):=Hd (HBO4.out.setCell (p:=⟨gb,0,none⟩) HGB.out _)
 replace u2:=Za u2 HB4.out
 clear hs1 hs2 hk4 HSK HFN HOB HBB hz HB9 HBO HBO4
 go_wp2_with fail
 clear y0 fz0 u2
 generalize w4.setCell ⟨gb,0,none⟩ (.int .i64 (uk:Int))=w6 at*
 have hrs:=Rs.of_own Zz (by decide) (Zi HOWX.out HBO6.out)
 have hkn1:k+1≤nx:=HLK.out
 have hr1:=hrs.cut 0 k (Nat.zero_le _) (by omega)
 rw[Zih,Nat.sub_zero,Nat.sub_zero,List.drop_zero] at hr1
 have hr2:=hrs.cut (k+1) nx hkn1 lR
 rw[Zii,List.take_of_length_le (by rw[List.length_drop,HLX.out];exact Nat.le_refl _)] at hr2
 have HR1':=Hd hr1
 have HR2':=Hd hr2
 have hcx:nx≤cx:=hrs.cap
 have hcw:IntKind.i64.wrap ((k:Int)+1)=(k:Int)+1:=by rw[IntKind.wrap_i64];omega
 have htn:((k:Int)+1).toNat=k+1:=by omega
 have hki:(k:Int)+1≤(nx:Int):=by omega
 have hk0:(0:Int)≤(k:Int)+1:=by omega
 have hkc:(k:Int)≤(cx:Int):=by omega
 clear hrs hr1 hr2
 refine wro [0,1,2,4,5,6,7,3,8,9] [3,8] 10 (fun _=>True) (by kernel_rfl) (fun _ _ _ _ _ h=>h) trivial ?_
 simp only[steps,sE,sD]
 repeat((first|refine Zf rfl ?_|(refine Zd (v:= ?_) rfl rfl ?_ ?_;rotate_left;(focus(rintro w' _;go_simp;try with_reducible rfl))));simp only[Act.put,sA,sB,sC])
 have HBD6:=Hd ((Below.refl w6.heap.size w6).drew)
 generalize World.drew _=wd6 at*
 refine Ze rfl rfl (fun K hK=> ?_)
 refine Bo.Z9 Zz (by decide) Y2 Tryz.underlying82 Y3 rfl (by decide) (.const (.slice none 0 0)) (.tmp 198) rfl wd6.heap.size (.slice none 0 0) 0 [] rfl (World.ownsRow_nil _ _ _ _) _ _ _ _ _ rfl (HR1'.out.at_size lR HBD6.out) (by omega) lR ?_
 intro A5 k5 c5 w7 HK5 HA5
 refine hK.out _ _ (fun _=>trivial) ?_
 clear hK K
 try simp only[Act.put,sA,sB,sC]
 have HB7:=Hd ((Below.refl wd6.heap.size wd6).grown HA5.out.grown lR (fun j hj=>by cases hj))
 refine Ze rfl rfl (fun K hK=> ?_)
 refine Bo.Z9 Zz (by decide) Y2 Tryz.underlying82 Y3 rfl (by decide) (.tmp 199) (.tmp 203) rfl wd6.heap.size (.slice A5 k5 c5) k5 _ rfl HA5.out.own _ _ _ _ _ rfl (HR2'.out.at_size lR (HBD6.out.trans (HB7.out.mono HBD6.out.size))) (by have:=HK5.out;have:=HNX.out;omega) HB7.out.size ?_
 intro A6 k6 c6 w8 HK6' HA6
 refine hK.out _ _ (fun _=>trivial) ?_
 clear hK K
 try simp only[Act.put,sA,sB,sC]
 repeat((first|refine Zf rfl ?_|(refine Zd (v:= ?_) rfl rfl ?_ ?_;rotate_left;(focus(rintro w' _;go_simp;try with_reducible rfl))));simp only[Act.put,sA,sB,sC])
 refine Zg ?_
 have HB8:=Hd (HB7.out.grown HA6.out.grown HB7.out.size fun j hj=>(HA5.out.own.lt j hj).1)
 have HB68:=Hd (HBD6.out.trans (HB8.out.mono HBD6.out.size))
 have HBO8:=Hd (HBO6.out.trans (HB68.out.mono HBO6.out.size))
 have HB9:=Hd (HB.out.trans (HBO8.out.mono HB.out.size))
 have HKW:=Hd ((HB68.out.block gb (Zh HK6.out)).trans HK6.out)
 have HOWX9:Hid (w8.ownsRow wa.heap.size 3 1 (.slice A6 k6 c6) k6 ((C.left (psF C (i+1))).flatMap en3)):=Hd (by
 rw[HLF.out]
 exact Va HA6.out.own (Nat.le_trans HB.out.size (Nat.le_trans HBO6.out.size HBD6.out.size)))
 have HND:Hid (C.vnB (C.cls 0) (clF C 1 (i+1))++Cfg.vnD (psF C (i+1))=(C.vnB (C.cls 0) (clF C 1 i)++Cfg.vnD (psF C i))++ [⟨(uk:Int),(i:Int),-1⟩]):=Hd (by rw[HR1.out,HPS.out,ZfL,List.append_assoc];rfl)
 clear hcw htn hki hk0 hkc hcx hkn1
 have v0:=(Zb (i:=0) HKW.out).trans rfl
 have v1:=(Zb (i:=1) HKW.out).trans rfl
 have v2:=(Zb (i:=2) HKW.out).trans rfl
 have HOWN9:=Hd (Zi HOWN.out HBO8.out)
 have HO:=Hd (show Rs ndC 3 (w8.alloc (.cells #[.int .i64 (uk:Int),.int .i64 (i:Int),.int .i64 (-1)] 95)) (w8.alloc (.cells #[.int .i64 (uk:Int),.int .i64 (i:Int),.int .i64 (-1)] 95)).heap.size (some ⟨w8.heap.size,0,none⟩) 1 1 [⟨(uk:Int),(i:Int),-1⟩] from Rs.of_blk ZC (heap_alloc_new w8 _) ⟨[],rfl⟩ rfl lR (by unfold maxLen;omega))
 have HAL:=Hd (show Below w8.heap.size w8 (w8.alloc (.cells #[.int .i64 (uk:Int),.int .i64 (i:Int),.int .i64 (-1)] 95)) from bA)
 have HW:=Hd (Zi HOWN9.out HAL.out)
 have hsz:wa.heap.size≤(w8.alloc (.cells #[.int .i64 (uk:Int),.int .i64 (i:Int),.int .i64 (-1)] 95)).heap.size:=Nat.le_trans HB9.out.size HAL.out.size
 go_wp2_with (at_builtin;refine Zk ZC (by decide) Qh Tryz.underlying89 Zbc rfl (by decide) rfl (.tmp 205) (.tmp 207) rfl wa.heap.size _ N _ rfl HW.out _ _ 1 1 [⟨(uk:Int),(i:Int),-1⟩] rfl HO.out hN1 hsz ?_;intro A' k' c' w' HK HA)
 go_roundw
 case rel=>exact⟨i+1,A',k',c',A6,k6,c6,by go_num,rfl,rfl,HLT.out,by rw[HND.out];exact HA.out.own,Yi (Zi HOWX9.out HAL.out) HA.out.grown (VX (Zi HOWX9.out HAL.out) HW.out (by decide)),(HB9.out.trans (HAL.out.mono HB9.out.size)).grown HA.out.grown hsz fun j hj=>(HW.out.lt j hj).1⟩
 case measure=>(
 have:=HLT.out
 simp[intOf]
 omega)))
 ·(
 have hnk: ¬(k:Int) < (nx:Int):=by omega
 have HSK:Hid (C.seek (psF C i) i=none):=Hd (Zbl.trans (Zkz fun j g=>HNOF.out j (by have:=HLX.out;omega) g))
 have HPS:Hid (psF C (i+1)=psF C i++ [(i,none)]):=Hd (by rw[HR2.out,HSK.out])
 have HKW:Hid (wr.heap[gb]?=some (.cells #[.int .i64 (-1),.int .i64 (i:Int),.int .i64 (-1)] 95 (0,0))):=Hd ((HBB.out.block gb (Zh HKB.out)).trans HKB.out)
 have HOWX9:Hid (wr.ownsRow wa.heap.size 3 1 (.slice X nx cx) nx ((C.left (psF C (i+1))).flatMap en3)):=Hd (by
 rw[HPS.out,left_skip]
 exact Zi HOWX.out HBO.out)
 have HND:Hid (C.vnB (C.cls 0) (clF C 1 (i+1))++Cfg.vnD (psF C (i+1))=(C.vnB (C.cls 0) (clF C 1 i)++Cfg.vnD (psF C i))++ [⟨-1,(i:Int),-1⟩]):=Hd (by rw[HR1.out,HPS.out,ZfL,List.append_assoc];rfl)
 clear hlk hk hno hz HNOF hk9
 have v0:=(Zb (i:=0) HKW.out).trans rfl
 have v1:=(Zb (i:=1) HKW.out).trans rfl
 have v2:=(Zb (i:=2) HKW.out).trans rfl
 have HOWN9:=Hd (Zi HOWN.out HBO.out)
 have HO:=Hd (show Rs ndC 3 (wr.alloc (.cells #[.int .i64 (-1),.int .i64 (i:Int),.int .i64 (-1)] 95)) (wr.alloc (.cells #[.int .i64 (-1),.int .i64 (i:Int),.int .i64 (-1)] 95)).heap.size (some ⟨wr.heap.size,0,none⟩) 1 1 [⟨-1,(i:Int),-1⟩] from Rs.of_blk ZC (heap_alloc_new wr _) ⟨[],rfl⟩ rfl lR (by unfold maxLen;omega))
 have HAL:=Hd (show Below wr.heap.size wr (wr.alloc (.cells #[.int .i64 (-1),.int .i64 (i:Int),.int .i64 (-1)] 95)) from bA)
 have HW:=Hd (Zi HOWN9.out HAL.out)
 have hsz:wa.heap.size≤(wr.alloc (.cells #[.int .i64 (-1),.int .i64 (i:Int),.int .i64 (-1)] 95)).heap.size:=Nat.le_trans HB9.out.size HAL.out.size
 go_wp2_with (at_builtin;refine Zk ZC (by decide) Qh Tryz.underlying89 Zbc rfl (by decide) rfl (.tmp 205) (.tmp 207) rfl wa.heap.size _ N _ rfl HW.out _ _ 1 1 [⟨-1,(i:Int),-1⟩] rfl HO.out hN1 hsz ?_;intro A' k' c' w' HK HA)
 go_roundw
 case rel=>exact⟨i+1,A',k',c',X,nx,cx,by go_num,rfl,rfl,HLT.out,by rw[HND.out];exact HA.out.own,Yi (Zi HOWX9.out HAL.out) HA.out.grown (VX (Zi HOWX9.out HAL.out) HW.out (by decide)),(HB9.out.trans (HAL.out.mono HB9.out.size)).grown HA.out.grown hsz fun j hj=>(HW.out.lt j hj).1⟩
 case measure=>(
 have:=HLT.out
 simp[intOf]
 omega)))))
 ·have hmd:m < (C.cls 2).length∧C.so i ((C.cls 2).getD m 0)=true:=by
   simp only[Bool.and_eq_true,decide_eq_true_eq] at hm
   exact hm
  have hmc:=hmd.1
  have HMG:Hid (C.mg C.so i=some (C.cls 2)[m]):=Hd (ZlI hmc hmd.2 fun j hj=>by
   have:=hno j hj
   simp only[decide_eq_true (show j < (C.cls 2).length by omega),Bool.true_and] at this
   exact this)
  have hmv:m < (C.vnB (C.cls 0) (clF C 1 i)).length:=by rw[Z8];exact hmc
  have hml:m < (C.vnB (C.cls 0) (clF C 1 i)++Cfg.vnD (psF C i)).length:=by rw[List.length_append];omega
  obtain⟨g,rfl,hg1,hg2,hcl,hfz⟩:=Rt ZC (by decide) HOWN9.out hml
  have u0:=hcl 1 _ rfl
  have HST:Hid ((wr.setCell ⟨g,m*3+1,none⟩ (.int .i64 (i:Int))).ownsRow wa.heap.size 95 3 (.slice (some ⟨g,0,none⟩) N c) N ((C.vnB (C.cls 0) (clF C 1 (i+1))++Cfg.vnD (psF C (i+1))).flatMap ndC)):=Hd (by
 rw[Uf HIS.out,ZcW HIS.out HMG.out, ← ZhX hmc HMG.out, ← List.set_append_left _ _ hmv]
 exact ZcV ZC HOWN9.out hml (i:=1) (by decide) (by rw[List.getElem_append_left hmv];rfl))
  have HSX:Hid ((wr.setCell ⟨g,m*3+1,none⟩ (.int .i64 (i:Int))).ownsRow wa.heap.size 3 1 (.slice X nx cx) nx ((C.left (psF C (i+1))).flatMap en3)):=Hd (by
 rw[ZcW HIS.out HMG.out]
 exact Zfp HOWX9.out (VX HOWN9.out HOWX9.out (by decide) g rfl))
  have HSB:Hid (Below wa.heap.size wa (wr.setCell ⟨g,m*3+1,none⟩ (.int .i64 (i:Int)))):=Hd (HB9.out.setCell (p:=⟨g,m*3+1,none⟩) hg1 _)
  have f0:=hfz (m*3+1)
  have hmN:(m:Int) < (N:Int):=by omega
  have hm9:m≤2000:=by omega
  have hm0:(0:Int)≤(m:Int):=by omega
  generalize (C.vnB (C.cls 0) (clF C 1 i)++Cfg.vnD (psF C i))[m]=x0 at u0
  replace u0:wr.cell? ⟨g,m*3+1,none⟩=some (.int .i64 x0.d):=u0
  clear HMG hmd hmc hmv hml hcl hfz hg1 hg2 hm hno hz
  by_cases hlk:m+1 < N
  ·(
 have hkn:((m+1:Nat):Int) < (N:Int):=by omega
 clear hlk hk
 go_wp2_with fail
 go_roundw
 case rel=>exact⟨i+1,some ⟨g,0,none⟩,N,c,X,nx,cx,by go_num,rfl,rfl,HLT.out,HST.out,HSX.out,HSB.out⟩
 case measure=>(
 have:=HLT.out
 simp[intOf]
 omega))
  ·(
 have hkn: ¬((m+1:Nat):Int) < (N:Int):=by omega
 clear hlk hk
 go_wp2_with fail
 go_roundw
 case rel=>exact⟨i+1,some ⟨g,0,none⟩,N,c,X,nx,cx,by go_num,rfl,rfl,HLT.out,HST.out,HSX.out,HSB.out⟩
 case measure=>(
 have:=HLT.out
 simp[intOf]
 omega)))))
 case neg=>(
 obtain rfl:n=i:=by omega
 have HB3:=Hd hb
 have HOWN3:Hid (wr.ownsRow wa.heap.size 95 3 (.slice A N c) N ((C.vnB (C.cls 0) (C.cls 1)++Cfg.vnD C.pairs).flatMap ndC)):=Hd (by
 have e:clF C 1 n=C.cls 1:=by rw[← HCN.out];rfl
 have e2:psF C n=C.pairs:=by rw[← HCN.out];rfl
 rw[← e, ← e2]
 exact hown)
 have HOWX3:Hid (wr.ownsRow wa.heap.size 3 1 (.slice X nx cx) nx ((C.left C.pairs).flatMap en3)):=Hd (by
 have e2:psF C n=C.pairs:=by rw[← HCN.out];rfl
 rw[← e2]
 exact hownx)
 clear hlt hi hb hown hownx
 obtain⟨w3,rfl⟩: ∃w3,w3=wr:=⟨_,rfl⟩
 go_wp2_with fail
 have HLX:Hid ((C.left C.pairs).length=nx):=Hd (Zl Zz (by decide) HOWX3.out)
 have HNX:Hid (nx≤1000):=Hd (by
 have:=HLX.out
 have:=left_le C C.pairs
 have:=HCN.out
 have:=HN.out
 omega)
 have HL3:Hid ((C.vnB (C.cls 0) (C.cls 1)++Cfg.vnD C.pairs).length≤2000):=Hd (by
 rw[List.length_append,Z8]
 have h2:(Cfg.vnD C.pairs).length=(psF C C.n).length:=by rw[show psF C C.n=C.pairs from rfl];simp[Cfg.vnD]
 have:=Zi6 C C.n
 have:=Zfr C 2
 have:=HCN.out
 have:=HN.out
 omega)
 go_loopw [7,18] (fun v7 v18 wr=> ∃(k:Nat) (A:Option Addr) (N c:Nat),v18= .int .i64 (k:Int)∧v7= .slice A N c∧k≤nx∧wr.ownsRow wa.heap.size 95 3 (.slice A N c) N ((C.vnB (C.cls 0) (C.cls 1)++Cfg.vnD C.pairs++Cfg.vnU ((C.left C.pairs).take k)).flatMap ndC)∧wr.ownsRow wa.heap.size 3 1 (.slice X nx cx) nx ((C.left C.pairs).flatMap en3)∧Below wa.heap.size wa wr) (fun _ v18 _=>nx - (intOf v18).toNat)
 case atStart=>exact⟨0,A,N,c,rfl,rfl,Nat.zero_le _,by rw[show Cfg.vnU ((C.left C.pairs).take 0)= [] from rfl,List.append_nil];exact HOWN3.out,HOWX3.out,HB3.out⟩
 case round=>(
 clear HOWN3 HOWX3 HB3
 obtain⟨k,A,N,c,rfl,rfl,hk,hown,hownx,hb⟩:=hrel
 have HB:=Hd hb
 have HOWN:=Hd hown
 have HOWX:=Hd hownx
 have hk9:k≤1000:=by have:=HNX.out;omega
 by_cases hlk:k < nx
 case pos=>(
 have HLK:=Hd hlk
 have hkn:(k:Int) < (nx:Int):=by omega
 have hkl:k < (C.left C.pairs).length:=by rw[HLX.out];exact hlk
 obtain⟨gx,rfl,-,-,hcl,-⟩:=Rt Zz (by decide) HOWX.out hkl
 have u2:=hcl 0 _ rfl
 have HR:Hid (Cfg.vnU ((C.left C.pairs).take (k+1))=Cfg.vnU ((C.left C.pairs).take k)++ [⟨((C.left C.pairs)[k]:Int),-1,-1⟩]):=Hd (by
 rw[List.take_succ_eq_append_getElem hkl]
 unfold Cfg.vnU
 rw[List.map_append]
 rfl)
 have hN1:N+1≤100000:=by(
 have h1:=Zl ZC (by decide) HOWN.out
 have h2:(Cfg.vnU ((C.left C.pairs).take k)).length≤k:=by(
 unfold Cfg.vnU
 rw[List.length_map,List.length_take]
 omega)
 have h3:=HL3.out
 rw[List.length_append] at h1
 omega)
 generalize (C.left C.pairs)[k]=uk at*
 replace u2:wr.cell? ⟨gx,k,none⟩=some (.int .i64 (uk:Int)):=by(
 have:=u2
 rw[Nat.mul_one,Nat.add_zero] at this
 exact this)
 clear hkl hcl hlk hk hown hownx hb
 have HO:=Hd (show Rs ndC 3 (wr.alloc (.cells #[.int .i64 (uk:Int),.int .i64 (-1),.int .i64 (-1)] 95)) (wr.alloc (.cells #[.int .i64 (uk:Int),.int .i64 (-1),.int .i64 (-1)] 95)).heap.size (some ⟨wr.heap.size,0,none⟩) 1 1 [⟨(uk:Int),-1,-1⟩] from Rs.of_blk ZC (heap_alloc_new wr _) ⟨[],rfl⟩ rfl lR (by unfold maxLen;omega))
 have HAL:=Hd (show Below wr.heap.size wr (wr.alloc (.cells #[.int .i64 (uk:Int),.int .i64 (-1),.int .i64 (-1)] 95)) from bA)
 have HW:=Hd (Zi HOWN.out HAL.out)
 have hsz:wa.heap.size≤(wr.alloc (.cells #[.int .i64 (uk:Int),.int .i64 (-1),.int .i64 (-1)] 95)).heap.size:=Nat.le_trans HB.out.size HAL.out.size
 go_wp2_with (at_builtin;refine Zk ZC (by decide) Qh Tryz.underlying89 Zbc rfl (by decide) rfl (.tmp 215) (.tmp 221) rfl wa.heap.size _ N _ rfl HW.out _ _ 1 1 [⟨(uk:Int),-1,-1⟩] rfl HO.out hN1 hsz ?_;intro A' k' c' w' HK HA)
 go_roundw
 case rel=>exact⟨k+1,A',k',c',by go_num,rfl,HLK.out,by rw[HR.out, ← List.append_assoc];exact HA.out.own,Yi (Zi HOWX.out HAL.out) HA.out.grown (VX (Zi HOWX.out HAL.out) HW.out (by decide)),(HB.out.trans (HAL.out.mono HB.out.size)).grown HA.out.grown hsz fun j hj=>(HW.out.lt j hj).1⟩
 case measure=>(
 have:=HLK.out
 simp[intOf]
 omega))
 case neg=>(
 obtain rfl:nx=k:=by omega
 have HOWN4:Hid (wr.ownsRow wa.heap.size 95 3 (.slice A N c) N (C.vns.flatMap ndC)):=Hd (by
 have e:(C.left C.pairs).take nx=C.left C.pairs:=List.take_of_length_le (by rw[HLX.out];exact Nat.le_refl _)
 rw[e] at hown
 exact hown)
 have HNV:Hid (N≤4000):=Hd (by
 have h1:=Zl ZC (by decide) hown
 have h2:(Cfg.vnU ((C.left C.pairs).take nx)).length≤nx:=by(
 unfold Cfg.vnU
 rw[List.length_map,List.length_take]
 omega)
 have h3:=HL3.out
 have h4:=HNX.out
 rw[List.length_append] at h1
 omega)
 have hnk: ¬(nx:Int) < (nx:Int):=by omega
 clear hlk hk hown hownx hb hk9 HOWN HOWX HL3
 obtain⟨w4,rfl⟩: ∃w4,w4=wr:=⟨_,rfl⟩
 have HRS:=Hd (Rs.of_own ZC (by decide) HOWN4.out)
 have HLV:Hid (C.vns.length=N):=Hd (Zl ZC (by decide) HOWN4.out)
 go_wp2_with fail
 clear hnk
 go_loopw [19,20] (fun v19 v20 wr=> ∃(i:Nat) (O:Option Addr) (no co:Nat),v20= .int .i64 (i:Int)∧v19= .slice O no co∧i≤n∧wr.ownsRow w4.heap.size 95 3 (.slice O no co) no ((Cfg.vnsI C.vns i).flatMap ndC)∧Below w4.heap.size w4 wr) (fun _ v20 _=>n - (intOf v20).toNat)
 case atStart=>exact⟨0,none,0,0,rfl,rfl,Nat.zero_le _,World.ownsRow_nil _ _ _ _,Below.refl _ _⟩
 case round=>(
 obtain⟨i,O,no,co,rfl,rfl,hi,hown,hb⟩:=hrel
 by_cases hlt:i < n
 case pos=>(
 have HLT:=Hd hlt
 have hin:(i:Int) < (n:Int):=by omega
 have hi9:i≤1000:=by have:=HN.out;omega
 have HOWNI:=Hd hown
 have HBI:=Hd hb
 clear hlt hi hown hb
 go_wp2_with fail
 go_loopw [19,21] (fun v19 v21 wr=> ∃(k:Nat) (O:Option Addr) (no co:Nat),v21= .int .i64 (k:Int)∧v19= .slice O no co∧k≤N∧wr.ownsRow w4.heap.size 95 3 (.slice O no co) no ((fsF C.vns i k).flatMap ndC)∧Below w4.heap.size w4 wr) (fun _ v21 _=>N - (intOf v21).toNat)
 case atStart=>exact⟨0,O,no,co,rfl,rfl,Nat.zero_le _,by rw[ZhD];exact HOWNI.out,HBI.out⟩
 case round=>(
 clear HOWNI HBI
 obtain⟨k,O,no,co,rfl,rfl,hk,hown,hb⟩:=hrel
 have hk9:k≤4000:=by have:=HNV.out;omega
 by_cases hlk:k < N
 case pos=>(
 have HLK:=Hd hlk
 have hkn:(k:Int) < (N:Int):=by omega
 have hkl:k < C.vns.length:=by rw[HLV.out];exact hlk
 have HOWN:=Hd hown
 have HB:=Hd hb
 obtain⟨b,o,rfl,-,hcl⟩:=(HRS.out.at_size lR hb).spot (by omega)
 have u0:=hcl k hkl 0 _ rfl
 have u1:=hcl k hkl 1 _ rfl
 have u2:=hcl k hkl 2 _ rfl
 have HY:=Hd (@Zkj C.vns i k hkl)
 have HNO:=Hd (@ZlH C.vns i k hkl)
 have hN1:no+1≤100000:=by(
 have h1:=Zl ZC (by decide) hown
 have:=ZlG C.vns i k
 have:=HLV.out
 have:=HNV.out
 omega)
 have HFR:=Hd (ZgC C.vns[k])
 generalize C.vns[k]=x at*
 replace u0:wr.cell? ⟨b,o+k*3,none⟩=some (.int .i64 x.u):=u0
 clear hkl hcl hlk hk hown hb
 unfold ndV at HFR
 go_wp2_with fail
 refine(HFR.out wr).mono ?_
 rintro e w5 ⟨rfl,hv⟩
 have HB5:=Hd (HB.out.trans (hv.mono HB.out.size))
 have HOWN5:=Hd (Zi HOWN.out hv)
 replace u0:=Za u0 hv
 replace u1:=Za u1 hv
 replace u2:=Za u2 hv
 clear hv HB HOWN HFR
 by_cases hf:x.first=(i:Int)
 ·(
 have gf:(x.first==(i:Int))=true:=by rw[beq_iff_eq];exact hf
 have HR:=Hd (HY.out hf)
 clear hf HY HNO
 have HO:=Hd (show Rs ndC 3 (w5.alloc (.cells #[.int .i64 x.u,.int .i64 x.d,.int .i64 x.b] 95)) (w5.alloc (.cells #[.int .i64 x.u,.int .i64 x.d,.int .i64 x.b] 95)).heap.size (some ⟨w5.heap.size,0,none⟩) 1 1 [x] from Rs.of_blk ZC (heap_alloc_new w5 _) ⟨[],rfl⟩ rfl lR (by unfold maxLen;omega))
 have HAL:=Hd (show Below w5.heap.size w5 (w5.alloc (.cells #[.int .i64 x.u,.int .i64 x.d,.int .i64 x.b] 95)) from bA)
 have HW:=Hd (Zi HOWN5.out HAL.out)
 have hsz:w4.heap.size≤(w5.alloc (.cells #[.int .i64 x.u,.int .i64 x.d,.int .i64 x.b] 95)).heap.size:=Nat.le_trans HB5.out.size HAL.out.size
 go_wp2_with (at_builtin;refine Zk ZC (by decide) Qh Tryz.underlying89 Zbc rfl (by decide) rfl (.tmp 242) (.tmp 247) rfl w4.heap.size _ no _ rfl HW.out _ _ 1 1 [x] rfl HO.out hN1 hsz ?_;intro A' k' c' w' HK HA)
 go_roundw
 case rel=>exact⟨k+1,A',k',c',by go_num,rfl,HLK.out,by rw[HR.out];exact HA.out.own,(HB5.out.trans (HAL.out.mono HB5.out.size)).grown HA.out.grown hsz fun j hj=>(HW.out.lt j hj).1⟩
 case measure=>(
 have:=HLK.out
 simp[intOf]
 omega))
 ·(
 have gf:(x.first==(i:Int))=false:=by rw[beq_eq_false_iff_ne];exact hf
 have HR:=Hd (HNO.out hf)
 clear hf HY HNO u0 u1 u2 hN1
 go_wp2_with fail
 go_roundw
 case rel=>exact⟨k+1,O,no,co,by go_num,rfl,HLK.out,by rw[HR.out];exact HOWN5.out,HB5.out⟩
 case measure=>(
 have:=HLK.out
 simp[intOf]
 omega)))
 case neg=>(
 obtain rfl:N=k:=by omega
 have HO:Hid (wr.ownsRow w4.heap.size 95 3 (.slice O no co) no ((Cfg.vnsI C.vns (i+1)).flatMap ndC)):=Hd (by
 rw[← Zkk,HLV.out]
 exact hown)
 have HB:=Hd hb
 clear hlk hk hown hb
 go_wp2_with fail
 go_roundw
 case rel=>exact⟨i+1,O,no,co,by go_num,rfl,HLT.out,HO.out,HB.out⟩
 case measure=>(
 have:=HLT.out
 simp[intOf]
 omega))))
 case neg=>(
 obtain rfl:n=i:=by omega
 have HO:Hid (wr.ownsRow w.heap.size 95 3 (.slice O no co) no (C.sorted.flatMap ndC)):=Hd (by
 have e:Cfg.vnsI C.vns n=C.sorted:=by rw[← HCN.out];rfl
 rw[← e]
 exact Va hown (Nat.le_trans HW0.out.size HB.out.size))
 have HBF:=Hd (HW0.out.trans ((HB.out.trans (hb.mono HB.out.size)).mono HW0.out.size))
 clear hlt hi hown hb
 go_wp2_with fail
 go_ret
 exact⟨O,no,co,rfl,HO.out,HBF.out⟩))))))))))
end Go.Proofs.YtmejhedegmjboaaGreat.I
