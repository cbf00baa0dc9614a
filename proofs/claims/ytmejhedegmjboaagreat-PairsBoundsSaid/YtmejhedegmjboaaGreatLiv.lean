import Derived.Deep.QuietTactic
import Derived.BigQuiet
import Derived.Test.YtmejhedegmjboaaGreatEach
import Derived.Test.YtmejhedegmjboaaGreatOfs
import Derived.Test.YtmejhedegmjboaaGreatOpn
import Derived.Test.YtmejhedegmjboaaGreatRfC
import Derived.Test.YtmejhedegmjboaaGreatRwB
set_option maxRecDepth 100000
set_option maxHeartbeats 8000000
namespace Go.Proofs.YtmejhedegmjboaaGreat.I
open Go.RowKit
def nmI (k:Nat):Value:= .int .i64 (k:Int)
def icl (l:List Nat):Array Value:=(l.map nmI).toArray
theorem Zcx {l:List Nat}{j:Nat}(h:j < l.length):(icl l)[j]?=some (.int .i64 (l[j]:Int)):=by
 rw[icl,List.getElem?_toArray,List.getElem?_map,List.getElem?_eq_getElem h]
 rfl
theorem ZjA (l:List Nat)(j v:Nat):(icl l).setIfInBounds j (.int .i64 (v:Int))=icl (l.set j v):=by
 simp[icl,List.map_set,nmI]
theorem ZjB (n:Nat)(h:n≤65536)(W:World):(Instr.makeSlice 82 (.int .i64 (n:Int)) (.int .i64 (n:Int))).run Tryz.prog W= .ok (.slice (some ⟨W.heap.size,0,none⟩) n n) (W.alloc (.cells (icl (List.replicate n 0)) 3)):=by
 obtain⟨i0,hi0,hz0,hz1,hz2⟩:=info_parts YM
 have:=run_make (P:=Tryz.prog) W 82 3 i0 _ Tryz.underlying82 hi0 hz0 .i64 .i64 n n (by omega) (Int.le_refl _) (by rw[hz2];omega) (by omega)
 rw[this,hz1,Nat.mul_one,Int.toNat_natCast]
 rw[show(Value.int .i64 0).cells= #[.int .i64 0] from rfl,show madeCells #[.int .i64 0] n=icl (List.replicate n 0) from ?_]
 apply Array.ext
 ·simp[madeCells,icl]
 ·intro i h1 h2
  simp[madeCells,icl,nmI,Nat.mod_one]
theorem ZmC {w:World}{g n:Nat}{l:List Nat}(h:w.heap[g]?=some (.cells (icl l) 3 (0,0)))(hl:l.length=n)(hn:n≤1000000):Rd nmI w w.heap.size (some ⟨g,0,none⟩) n n l:=
 ⟨hl,Nat.le_refl _,by unfold maxLen;omega,(fun h=>by cases h),fun _=>⟨g,0,rfl,Zh h,fun j hj=>by rw[Nat.zero_add,Zb h,Zcx hj];rfl⟩⟩
noncomputable def ofL (z:Sen) (n i:Nat):List Nat:=(List.range n).map fun k=>if k < i then first z k else 0
theorem ZbJ (z:Sen)(n i:Nat):(ofL z n i).length=n:=by simp[ofL]
theorem Zha (z:Sen)(n:Nat):List.replicate n 0=ofL z n 0:=by
 apply List.ext_getElem (by simp[ofL])
 intro k h1 h2
 simp[ofL]
theorem Yf (z:Sen)(n i:Nat):(ofL z n i).set i (first z i)=ofL z n (i+1):=by
 apply List.ext_getElem (by simp[ofL])
 intro k h1 h2
 rw[List.getElem_set]
 by_cases e:i=k
 ·subst e;simp[ofL]
 ·(
 rw[if_neg e]
 simp only[ofL,List.getElem_map,List.getElem_range]
 by_cases h:k < i
 ·rw[if_pos h,if_pos (by omega)]
 ·rw[if_neg h,if_neg (by omega)])
theorem ZjC (z:Sen)(n:Nat):ofL z n n=(List.range n).map (first z):=by
 apply List.map_congr_left
 intro k hk
 rw[if_pos (List.mem_range.1 hk)]
structure OfS (z:Sen)(w W:World)(ga b1 b2 m:Nat)(f:Nm)(m2:Nat)(g:Key→Option Nat)(L:List Nat):Prop where
 bel:Below w.heap.size w W
 a:W.heap[ga]?=some (.cells (icl L) 3 (0,0))
 m1:ZT enP 241 60 .u64 W b1 m f
 m2:ZT enK 202 3 .i64 W b2 m2 g
 sh:Shelf f m
 hb:w.heap.size < ga∧w.heap.size < b1∧w.heap.size < b2∧ga≠b1∧ga≠b2∧b1≠b2
section
variable {z:Sen} {w W V:World} {ga b1 b2 m:Nat} {f:Nm} {m2:Nat} {g:Key→Option Nat} {L:List Nat} (h:OfS z w W ga b1 b2 m f m2 g L)
include h
theorem OfS.keep (hb:Below W.heap.size W V):OfS z w V ga b1 b2 m f m2 g L:=
 ⟨h.bel.trans (hb.mono h.bel.size),(hb.block _ (Zh h.a)).trans h.a,h.m1.below hb,h.m2.below hb,h.sh,h.hb⟩
theorem OfS.set (i v:Nat):OfS z w (W.setCell ⟨ga,i,none⟩ (.int .i64 (v:Int))) ga b1 b2 m f m2 g (L.set i v):=by
 obtain⟨c1,c2,c3,c4,c5,c6⟩:=h.hb
 exact⟨Zp h.bel (Nat.le_of_lt c1) _,by rw[← ZjA];exact Zm h.a _,h.m1.move (Below.heap_setCell _ ⟨ga,i,none⟩ _ b1 (Ne.symm c4)),h.m2.move (Below.heap_setCell _ ⟨ga,i,none⟩ _ b2 (Ne.symm c5)),h.sh,h.hb⟩
theorem OfS.look {n i m':Nat}{x:Key}{f':Nm}(k:LkIs W V b1 m n f z i x m' f'):OfS z w V ga b1 b2 m' f' m2 g L:=by
 obtain⟨c1,c2,c3,c4,c5,c6⟩:=h.hb
 exact⟨h.bel.trans (k.kept.below h.bel.size fun b e=>by subst e;omega),(k.kept.block _ (Zh h.a) c4).trans h.a,k.map,h.m2.kept k.kept (Ne.symm c6),k.sh,h.hb⟩
theorem OfS.put {m3:Nat}{g':Key→Option Nat}(k:Kept (· =b2) W V)(hm:ZT enK 202 3 .i64 V b2 m3 g'):OfS z w V ga b1 b2 m f m3 g' L:=by
 obtain⟨c1,c2,c3,c4,c5,c6⟩:=h.hb
 exact⟨h.bel.trans (k.below h.bel.size fun b e=>by subst e;omega),(k.block _ (Zh h.a) c5).trans h.a,h.m1.kept k c6,hm,h.sh,h.hb⟩
theorem OfS.zb {A1:Option Addr}{n1 c1:Nat}{A2:Option Addr}{n2 c2:Nat}{A3:Option Addr}{n3 c3:Nat}{A4:Option Addr}{n4 c4:Nat}(k:ZB W w.heap.size A1 n1 c1 A2 n2 c2 A3 n3 c3 A4 n4 c4)(i:Nat)(u:Value):ZB (W.setCell ⟨ga,i,none⟩ u) w.heap.size A1 n1 c1 A2 n2 c2 A3 n3 c3 A4 n4 c4:=by
 have off: ∀o,(W.setCell ⟨ga,i,none⟩ u).cell? ⟨w.heap.size,o,none⟩=W.cell? ⟨w.heap.size,o,none⟩:=fun o=>World.cell?_of_block (a:=⟨w.heap.size,o,none⟩) (Below.heap_setCell _ ⟨ga,i,none⟩ u w.heap.size (by have:=h.hb.1;show w.heap.size≠ga;omega))
 exact⟨(off 0).trans k.p0,(off 1).trans k.p1,(off 2).trans k.p2,(off 3).trans k.p3⟩
theorem OfS.zbk {b:Nat}(hb:w.heap.size < b)(k:Kept (· =b) W V){A1:Option Addr}{n1 c1:Nat}{A2:Option Addr}{n2 c2:Nat}{A3:Option Addr}{n3 c3:Nat}{A4:Option Addr}{n4 c4:Nat}(q:ZB W w.heap.size A1 n1 c1 A2 n2 c2 A3 n3 c3 A4 n4 c4):ZB V w.heap.size A1 n1 c1 A2 n2 c2 A3 n3 c3 A4 n4 c4:=by
 have hlt:w.heap.size < W.heap.size:=Nat.lt_trans h.hb.1 (Zh h.a)
 have off: ∀o,V.cell? ⟨w.heap.size,o,none⟩=W.cell? ⟨w.heap.size,o,none⟩:=fun o=>k.cell (p:=⟨w.heap.size,o,none⟩) hlt (by show ¬w.heap.size=b;omega)
 exact⟨(off 0).trans q.p0,(off 1).trans q.p1,(off 2).trans q.p2,(off 3).trans q.p3⟩
end
def ZjD (z:Sen)(w w':World)(A:Option Addr)(n c:Nat):Prop:=
 Below w.heap.size w w'∧((Zn z=false∧A=none∧n=0∧c=0)∨
  (Zn z=true∧ ∃ga,A=some ⟨ga,0,none⟩∧n=z.p.length∧c=n∧w.heap.size < ga∧w'.heap[ga]?=some (.cells (icl (ofL z n n)) 3 (0,0))))
theorem ZjD.rd {z:Sen}{w w':World}{A:Option Addr}{n c:Nat}(h:ZjD z w w' A n c)(hn:z.p.length≤1000):Rd nmI w' w'.heap.size A n c (alF z):=by
 rcases h.2 with⟨hw,rfl,rfl,rfl⟩|⟨hw,ga,rfl,rfl,rfl,-,hf⟩
 ·unfold alF
  rw[hw]
  exact Rd.nil _ _
 ·rw[ZjC] at hf
  unfold alF
  rw[if_pos hw]
  exact ZmC hf (by simp) (by omega)
theorem wf_i64 {a:Nat}(h:a≤1000000):(Lit.int .i64 (a:Int)).wf=true:=by
 simp[Lit.wf,IntKind.min,IntKind.max,IntKind.signed,IntKind.bits]
 omega
theorem ZdI (v:Value)(z:Sen)(A1:Option Addr)(n1 c1:Nat)(A2:Option Addr)(n2 c2:Nat)(A3:Option Addr)(n3 c3:Nat)(A4:Option Addr)(n4 c4:Nat)(w:World)(h:Zx w z A1 n1 c1 A2 n2 c2 A3 n3 c3 A4 n4 c4)(hn:n1≤400):
  Calls Tryz.prog 84 #[v,senV A1 n1 c1 A2 n2 c2 A3 n3 c3 A4 n4 c4] w fun e w'=> ∃A n c,e= .returned (.slice A n c)∧ZjD z w w' A n c:=by
 obtain⟨r,hr⟩: ∃r,Zn z=r:=⟨_,rfl⟩
 have HR:=Hd hr
 have HSW:Hid (∀W,Below w.heap.size w W→Zx W z A1 n1 c1 A2 n2 c2 A3 n3 c3 A4 n4 c4):=Hd fun W hW=>h.keep hW
 have hwh:=fun W (hW:Below w.heap.size w W)=>ZbH A1 n1 c1 A2 n2 c2 A3 n3 c3 A4 n4 c4 z W (h.keep hW) r hr
 have HWH:=Hd hwh
 have HN:=Hd hn
 have HLEN:=Hd h.rp.len
 have hz0:=ZB.of (heap_alloc_new w (.cells #[.slice A1 n1 c1,.slice A2 n2 c2,.slice A3 n3 c3,.slice A4 n4 c4] 28))
 have hb0:Below w.heap.size w (w.alloc (.cells #[.slice A1 n1 c1,.slice A2 n2 c2,.slice A3 n3 c3,.slice A4 n4 c4] 28)):=bA
 have HZ0:=Hd hz0
 have HB0:=Hd hb0
 clear hwh hr h hn hz0 hb0
 unfold senV at HWH ⊢
 have hmm:= @run_makeMap Tryz.prog
 have hmk: ∀W,(Instr.makeSlice 82 (.int .i64 (n1:Int)) (.int .i64 (n1:Int))).run Tryz.prog W= .ok (.slice (some ⟨W.heap.size,0,none⟩) n1 n1) (W.alloc (.cells (icl (List.replicate n1 0)) 3)):=fun W=>ZjB n1 (by have:=HN.out;omega) W
 cases r with
 |false=>(
 go_enter Tryz.func84,Tryz.ntmps84
 go_wp2_with fail
 refine(HWH.out _ HB0.out).mono ?_
 rintro e w1 ⟨rfl,hv⟩
 have HB1:=Hd (HB0.out.trans (hv.mono HB0.out.size))
 clear hv HWH
 go_wp2_with fail
 go_ret
 exact⟨none,0,0,rfl,HB1.out,.inl ⟨HR.out,rfl,rfl,rfl⟩⟩)
 |true=>(
 go_enter Tryz.func84,Tryz.ntmps84
 go_wp2_with fail
 refine(HWH.out _ HB0.out).mono ?_
 rintro e w1 ⟨rfl,hv⟩
 have HB1:=Hd (HB0.out.trans (hv.mono HB0.out.size))
 have hz1:=HZ0.out.keep hv
 have HZ1:=Hd hz1
 have y0:=hz1.p0
 have q3:Below w1.heap.size w1 (((w1.alloc (.cells (icl (List.replicate n1 0)) 3)).alloc (.map #[] 0)).alloc (.map #[] 0)):=((bA).alloc (by simp) _).alloc (by simp;omega) _
 have y3:=Za y0 q3
 have hst:OfS z w (((w1.alloc (.cells (icl (List.replicate n1 0)) 3)).alloc (.map #[] 0)).alloc (.map #[] 0)) w1.heap.size (w1.heap.size+1) (w1.heap.size+1+1) 0 (fun _=>none) 0 (fun _=>none) (ofL z n1 0):=by(
 obtain⟨x,hx⟩: ∃x,w1.alloc (.cells (icl (List.replicate n1 0)) 3)=x:=⟨_,rfl⟩
 obtain⟨y,hy⟩: ∃y,x.alloc (.map #[] 0)=y:=⟨_,rfl⟩
 have sx:x.heap.size=w1.heap.size+1:=by rw[← hx,World.size_alloc]
 have sy:y.heap.size=w1.heap.size+1+1:=by rw[← hy,World.size_alloc,sx]
 have k0:x.heap[w1.heap.size]?=some (.cells (icl (List.replicate n1 0)) 3 (0,0)):=hx▸heap_alloc_new w1 _
 have b1:Below x.heap.size x y:=hy▸bA
 have b2:Below y.heap.size y (y.alloc (.map #[] 0)):=bA
 have m1:ZT enP 241 60 .u64 y (w1.heap.size+1) 0 (fun _=>none):=by rw[← sx, ← hy];exact ZT.made x
 have m2:ZT enK 202 3 .i64 (y.alloc (.map #[] 0)) (w1.heap.size+1+1) 0 (fun _=>none):=by rw[← sy];exact ZT.made y
 have h0:=World.block_lt_of_cell? w1 _ y0
 replace h0:w.heap.size < w1.heap.size:=h0
 rw[hx,hy] at q3 ⊢
 exact⟨HB1.out.trans (q3.mono (Nat.le_of_lt h0)),by rw[← Zha];exact(b2.block _ (by rw[sy];omega)).trans ((b1.block _ (by rw[sx];omega)).trans k0),m1.below b2,m2,Shelf.empty,by omega⟩)
 have hzz:=HZ1.out.keep q3
 have HST:=Hd hst
 have HZZ:=Hd hzz
 clear hv HWH HB0 HZ0 hz1 hst q3 hzz
 go_wp2_with fail
 clear y0 y3 hmm hmk HB1 HZ1
 generalize ((w1.alloc (.cells (icl (List.replicate n1 0)) 3)).alloc (.map #[] 0)).alloc (.map #[] 0)=w3 at*
 obtain⟨ga,hga⟩: ∃u,w1.heap.size=u:=⟨_,rfl⟩
 simp only[hga] at*
 obtain⟨b1,hb1⟩: ∃u,ga+1=u:=⟨_,rfl⟩
 simp only[hb1] at*
 obtain⟨b2,hb2⟩: ∃u,b1+1=u:=⟨_,rfl⟩
 simp only[hb2] at*
 clear hga hb1 hb2
 go_loopw [25] (fun v25 wr=> ∃(i m:Nat) (f:Nm) (m2:Nat) (g:Key→Option Nat),v25= .int .i64 (i:Int)∧i≤n1∧OfS z w wr ga b1 b2 m f m2 g (ofL z n1 i)∧Y0 f g z i∧m≤i*800∧m2≤i∧ZB wr w.heap.size A1 n1 c1 A2 n2 c2 A3 n3 c3 A4 n4 c4) (fun v25 _=>n1 - (intOf v25).toNat)
 case atStart=>exact⟨0,0,_,0,_,rfl,Nat.zero_le _,HST.out,Y0.zero _ _,Nat.zero_le _,Nat.le_refl _,HZZ.out⟩
 case round=>(
 clear HST HZZ
 obtain⟨i,m,f,m2,g,rfl,hi,hst,hinv,hm,hm2,hzb⟩:=hrel
 by_cases hlt:i < n1
 ·(
 have hsn:=HSW.out w (Below.refl _ _)
 obtain⟨a1,a2,a3,a4,a5⟩:=ZE.1 HR.out
 have hl1:=HLEN.out
 have hl4:=hsn.rb.len
 have hip:i < z.p.length:=by omega
 obtain⟨p0,o0,rfl,-,e0,e1,e2,e3,e4⟩:=Z7 hsn.rp hip
 obtain⟨p4,o4,p5,o5,y5,rfl,k1,k2⟩:=Vp hsn HR.out hip hip
 have hs2:=a4 _ (List.getElem_mem hip)
 have HSD:=Hd (ZaE hip)
 generalize z.p[i]=sp at*
 obtain⟨xn,xp,xs,xv,xz⟩:=sp
 simp only at e0 e1 e2 e3 e4 hs2
 have HSD:Hid (sd z i=xs):=HSD
 obtain⟨x,hx⟩: ∃x,bb z i i=x:=⟨_,rfl⟩
 rw[hx] at k2
 have HX:=Hd hx
 have HINV:=Hd hinv
 have HMM:=Hd (show m≤i*800∧m2≤i from⟨hm,hm2⟩)
 have HLT:=Hd hlt
 have hin:(i:Int) < (n1:Int):=by omega
 have hin4:(i:Int) < (n4:Int):=by omega
 have hi9:i≤400:=by have:=HN.out;omega
 have hal:Below wr.heap.size wr (wr.alloc (.cells #[.int .i64 xn,.int .u8 (xp:Int),.int .u8 (xs:Int),.bool xv,.int .u64 xz] 67)):=bA
 have hsa:=hst.keep hal
 have hzz:=hzb.keep hal
 have d0:=(Zb (i:=i) hsa.a).trans (Zcx (by rw[ZbJ];exact hlt))
 have f0:=Zc (i:=i) hsa.a
 generalize (ofL z n1 i)[i]'_=vx at*
 have hss:=hsa.set i i
 have hzs:=hsa.zb hzz i (.int .i64 (i:Int))
 have ks1:=Za k1 hss.bel
 have ks2:=Za k2 hss.bel
 have ks3:((wr.alloc (.cells #[.int .i64 xn,.int .u8 (xp:Int),.int .u8 (xs:Int),.bool xv,.int .u64 xz] 67)).setCell ⟨ga,i,none⟩ (.int .i64 (i:Int))).cell? ⟨wr.heap.size,2,none⟩=some (.int .u8 (xs:Int)):=
  (World.cell?_of_block (a:=⟨wr.heap.size,2,none⟩) (Below.heap_setCell _ ⟨ga,i,none⟩ _ wr.heap.size (by have:=Zh hst.a;show wr.heap.size≠ga;omega))).trans ((Zb (i:=2) (heap_alloc_new wr _)).trans rfl)
 replace e0:=Za e0 hst.bel
 replace e1:=Za e1 hst.bel
 replace e2:=Za e2 hst.bel
 replace e3:=Za e3 hst.bel
 replace e4:=Za e4 hst.bel
 have HSS:=Hd hss
 have HZS:=Hd hzs
 have zz0:=hzs.p0
 have zz1:=hzs.p1
 have zz2:=hzs.p2
 have zz3:=hzs.p3
 clear hi hst hinv hm hm2 hzb hsn a1 a2 a3 a4 a5 hl1 hl4 hip hx hal hsa hzz hss hzs k1 k2
 by_cases h2:xs=2
 ·(
 have g0:((xs:Int)==2)=true:=by subst h2;rfl
 have HS2:=Hd (HSD.out.trans h2)
 clear hs2 h2
 cases x with
 |false=>(
 have HOK:Hid (okA z i=false):=Hd (by unfold okA;rw[HS2.out,HX.out];rfl)
 have HSK:=Hd (HINV.out.skip HOK.out)
 go_wp2_with fail
 go_roundw
 case rel=>exact⟨i+1,m,f,m2,g,by go_num,HLT.out,by rw[← Yf,HSK.out.1];exact HSS.out,HSK.out.2,by have:=HMM.out;omega,by have:=HMM.out;omega,HZS.out⟩
 case measure=>(
 have:=HLT.out
 simp[intOf]
 omega))
 |true=>(
 have HOK:Hid (okA z i=true):=Hd (by unfold okA;rw[HX.out];simp)
 go_wp2_with fail
 clear e0 e1 e2 e3 e4 d0 f0 ks1 ks2 ks3 zz0 zz1 zz2 zz3 g0
 generalize (wr.alloc (.cells #[.int .i64 xn,.int .u8 (xp:Int),.int .u8 (xs:Int),.bool xv,.int .u64 xz] 67)).setCell ⟨ga,i,none⟩ (.int .i64 (i:Int))=ws at*
 have HLK:=Hd (Zdw i b1 m f z (some ⟨p0,o0,none⟩) n1 c1 A2 n2 c2 A3 n3 c3 (some ⟨p4,o4,none⟩) n4 c4 ws HR.out HLT.out (by have:=HN.out;omega) (by have:=HMM.out;have:=HLT.out;have:=HN.out;omega) HSS.out.m1 HSS.out.sh (fun W hW=>HSW.out W (HSS.out.bel.trans (hW.below HSS.out.bel.size (fun b e=>by have:=HSS.out.hb;subst e;omega)))))
 unfold senV at HLK
 refine HLK.out.mono ?_
 rintro e w5 ⟨x,m',f',rfl,hk⟩
 obtain⟨x0,x1,x2,x3,x4⟩:=x
 have HKEY:=Hd (keyK (x:=(x0,x1,x2,x3,x4)) (by have:=hk.x0;simp only at this ⊢;omega) hk.x1 hk.x2 hk.x3 hk.x4)
 have hal:Below w5.heap.size w5 (w5.alloc (.cells (lkC x0 x1 x2 x3 x4) 202)):=bA
 have HS6:=Hd ((HSS.out.look hk).keep hal)
 have HZ6:=Hd ((HSS.out.zbk HSS.out.hb.2.1 hk.kept HZS.out).keep hal)
 have HLI:=Hd hk.is
 have HEX:=Hd hk.ext
 have HM6:=Hd (show m'≤(i+1)*800 by have:=hk.le;have:=HMM.out;have:=HN.out;omega)
 clear hk hal HLK HZS
 simp only[enK]
 obtain⟨o,ho⟩: ∃o,g (x0,x1,x2,x3,x4)=o:=⟨_,rfl⟩
 have HO:=Hd ho
 clear ho
 cases o with
 |some vv=>(
 have HIT:=Hd (HINV.out.hit HEX.out HS6.out.sh HOK.out HLI.out HO.out)
 have d0:=(Zb (i:=i) HS6.out.a).trans (Zcx (by rw[List.length_set,ZbJ];exact HLT.out))
 have f0:=Zc (i:=i) HS6.out.a
 generalize ((ofL z n1 i).set i i)[i]'_=vx2 at*
 go_wp2_with (at_lookup;refine VC rfl _ _ 200 rfl lawK Tryz.underlying200 Tryz.underlying3 zero3 HS6.out.m2 rfl (x0,x1,x2,x3,x4) rfl HKEY.out vv (by rw[HO.out];rfl) true (by rw[HO.out];rfl) ?_)
 have hs7:=HS6.out.set i vv
 have HS7:=Hd hs7
 have HZ7:=Hd (HS6.out.zb HZ6.out i (.int .i64 (vv:Int)))
 clear hs7
 go_roundw
 case rel=>exact⟨i+1,m',f',m2,g,by go_num,HLT.out,by rw[← Yf, ← HIT.out.1, ← List.set_set];exact HS7.out,HIT.out.2,HM6.out,by have:=HMM.out;omega,HZ7.out⟩
 case measure=>(
 have:=HLT.out
 simp[intOf]
 omega))
 |none=>(
 have HMI:=Hd (HINV.out.miss HEX.out HOK.out HLI.out HO.out)
 go_wp2_with (first
  |(at_lookup;refine VC rfl _ _ 200 rfl lawK Tryz.underlying200 Tryz.underlying3 zero3 HS6.out.m2 rfl (x0,x1,x2,x3,x4) rfl HKEY.out 0 (by rw[HO.out];rfl) false (by rw[HO.out];rfl) ?_)
  |(at_mapUpdate;refine Zdt rfl _ _ _ 200 rfl lawK Tryz.underlying200 Tryz.underlying3 ZgM HS6.out.m2 rfl (x0,x1,x2,x3,x4) rfl HKEY.out i rfl (wf_i64 (by have:=HLT.out;have:=HN.out;omega)) (by have:=HMM.out;have:=HLT.out;have:=HN.out;unfold maxLen;omega) HO.out ?_;intro w7 hm7 hk7;have HS7:=Hd (HS6.out.put hk7 hm7);have HZ7:=Hd (HS6.out.zbk HS6.out.hb.2.2.1 hk7 HZ6.out);clear hm7 hk7))
 go_roundw
 case rel=>exact⟨i+1,m',f',m2+1,_,by go_num,HLT.out,by rw[← Yf,HMI.out.1];exact HS7.out,HMI.out.2,HM6.out,by have:=HMM.out;omega,HZ7.out⟩
 case measure=>(
 have:=HLT.out
 simp[intOf]
 omega))))
 ·(
 have g0:((xs:Int)==2)=false:=by rw[beq_eq_false_iff_ne];omega
 have HOK:Hid (okA z i=true):=Hd (by unfold okA;rw[HSD.out,decide_eq_false h2];rfl)
 clear hs2 h2
 go_wp2_with fail
 clear e0 e1 e2 e3 e4 d0 f0 ks1 ks2 ks3 zz0 zz1 zz2 zz3 g0
 generalize (wr.alloc (.cells #[.int .i64 xn,.int .u8 (xp:Int),.int .u8 (xs:Int),.bool xv,.int .u64 xz] 67)).setCell ⟨ga,i,none⟩ (.int .i64 (i:Int))=ws at*
 have HLK:=Hd (Zdw i b1 m f z (some ⟨p0,o0,none⟩) n1 c1 A2 n2 c2 A3 n3 c3 (some ⟨p4,o4,none⟩) n4 c4 ws HR.out HLT.out (by have:=HN.out;omega) (by have:=HMM.out;have:=HLT.out;have:=HN.out;omega) HSS.out.m1 HSS.out.sh (fun W hW=>HSW.out W (HSS.out.bel.trans (hW.below HSS.out.bel.size (fun b e=>by have:=HSS.out.hb;subst e;omega)))))
 unfold senV at HLK
 refine HLK.out.mono ?_
 rintro e w5 ⟨x,m',f',rfl,hk⟩
 obtain⟨x0,x1,x2,x3,x4⟩:=x
 have HKEY:=Hd (keyK (x:=(x0,x1,x2,x3,x4)) (by have:=hk.x0;simp only at this ⊢;omega) hk.x1 hk.x2 hk.x3 hk.x4)
 have hal:Below w5.heap.size w5 (w5.alloc (.cells (lkC x0 x1 x2 x3 x4) 202)):=bA
 have HS6:=Hd ((HSS.out.look hk).keep hal)
 have HZ6:=Hd ((HSS.out.zbk HSS.out.hb.2.1 hk.kept HZS.out).keep hal)
 have HLI:=Hd hk.is
 have HEX:=Hd hk.ext
 have HM6:=Hd (show m'≤(i+1)*800 by have:=hk.le;have:=HMM.out;have:=HN.out;omega)
 clear hk hal HLK HZS
 simp only[enK]
 obtain⟨o,ho⟩: ∃o,g (x0,x1,x2,x3,x4)=o:=⟨_,rfl⟩
 have HO:=Hd ho
 clear ho
 cases o with
 |some vv=>(
 have HIT:=Hd (HINV.out.hit HEX.out HS6.out.sh HOK.out HLI.out HO.out)
 have d0:=(Zb (i:=i) HS6.out.a).trans (Zcx (by rw[List.length_set,ZbJ];exact HLT.out))
 have f0:=Zc (i:=i) HS6.out.a
 generalize ((ofL z n1 i).set i i)[i]'_=vx2 at*
 go_wp2_with (at_lookup;refine VC rfl _ _ 200 rfl lawK Tryz.underlying200 Tryz.underlying3 zero3 HS6.out.m2 rfl (x0,x1,x2,x3,x4) rfl HKEY.out vv (by rw[HO.out];rfl) true (by rw[HO.out];rfl) ?_)
 have hs7:=HS6.out.set i vv
 have HS7:=Hd hs7
 have HZ7:=Hd (HS6.out.zb HZ6.out i (.int .i64 (vv:Int)))
 clear hs7
 go_roundw
 case rel=>exact⟨i+1,m',f',m2,g,by go_num,HLT.out,by rw[← Yf, ← HIT.out.1, ← List.set_set];exact HS7.out,HIT.out.2,HM6.out,by have:=HMM.out;omega,HZ7.out⟩
 case measure=>(
 have:=HLT.out
 simp[intOf]
 omega))
 |none=>(
 have HMI:=Hd (HINV.out.miss HEX.out HOK.out HLI.out HO.out)
 go_wp2_with (first
  |(at_lookup;refine VC rfl _ _ 200 rfl lawK Tryz.underlying200 Tryz.underlying3 zero3 HS6.out.m2 rfl (x0,x1,x2,x3,x4) rfl HKEY.out 0 (by rw[HO.out];rfl) false (by rw[HO.out];rfl) ?_)
  |(at_mapUpdate;refine Zdt rfl _ _ _ 200 rfl lawK Tryz.underlying200 Tryz.underlying3 ZgM HS6.out.m2 rfl (x0,x1,x2,x3,x4) rfl HKEY.out i rfl (wf_i64 (by have:=HLT.out;have:=HN.out;omega)) (by have:=HMM.out;have:=HLT.out;have:=HN.out;unfold maxLen;omega) HO.out ?_;intro w7 hm7 hk7;have HS7:=Hd (HS6.out.put hk7 hm7);have HZ7:=Hd (HS6.out.zbk HS6.out.hb.2.2.1 hk7 HZ6.out);clear hm7 hk7))
 go_roundw
 case rel=>exact⟨i+1,m',f',m2+1,_,by go_num,HLT.out,by rw[← Yf,HMI.out.1];exact HS7.out,HMI.out.2,HM6.out,by have:=HMM.out;omega,HZ7.out⟩
 case measure=>(
 have:=HLT.out
 simp[intOf]
 omega))))
 ·(
 obtain rfl:i=n1:=by omega
 have HF:=Hd hst
 clear hlt hst hinv hm hm2 hzb
 go_wp2_with fail
 go_ret
 exact⟨_,_,_,rfl,HF.out.bel,.inr ⟨HR.out,ga,rfl,HLEN.out.symm,rfl,HF.out.hb.1,HF.out.a⟩⟩)))
end Go.Proofs.YtmejhedegmjboaaGreat.I
namespace Go.Proofs.YtmejhedegmjboaaGreat
end Go.Proofs.YtmejhedegmjboaaGreat
namespace Go.Proofs.YtmejhedegmjboaaGreat
end Go.Proofs.YtmejhedegmjboaaGreat
namespace Go.Proofs.YtmejhedegmjboaaGreat
open Go.RowKit
open I (sd bb lw hg fixB valF)
def toI (z:Sen):I.Sen:=⟨z.p.map fun p=>⟨(p.n:Int),p.p,p.s,p.v,p.z⟩,z.lo,z.hi,z.be⟩
theorem Rs.mapped {α β:Type}{enc:α→List Value}{enc':β→List Value}{f:α→β}(he: ∀x,enc' (f x)=enc x){sz:Nat}{w:World}{B:Nat}{A:Option Addr}{n c:Nat}{l:List α}(h:Rs enc sz w B A n c l):Rs enc' sz w B A n c (l.map f):=
 ⟨by rw[List.length_map];exact h.len,h.cap,h.top,h.none0,fun hn=>by
  obtain⟨b,o,e,hb,hc⟩:=h.spot hn
  exact⟨b,o,e,hb,fun j hj i u hu=>hc j (by simpa using hj) i u (by rw[List.getElem_map,he] at hu;exact hu)⟩⟩
theorem Zx.toI {w:World}{z:Sen}{A1:Option Addr}{n1 c1:Nat}{A2:Option Addr}{n2 c2:Nat}{A3:Option Addr}{n3 c3:Nat}{A4:Option Addr}{n4 c4:Nat}(h:Zx w z A1 n1 c1 A2 n2 c2 A3 n3 c3 A4 n4 c4):I.Zx w (toI z) A1 n1 c1 A2 n2 c2 A3 n3 c3 A4 n4 c4:=
 ⟨h.rp.mapped (f:=fun p:Sp=>(⟨(p.n:Int),p.p,p.s,p.v,p.z⟩:I.Sp)) fun _=>rfl,h.rl,h.rh,h.rb,h.fl,h.fh⟩
section
variable {S:Bo.Sr} {lo hi:List Nat} {rc:Nat→Nat→Bool} {l:List Sp}
end
section
variable {S:Bo.Sr} {q:Nat} {b:List Bo.Bd} {lo hi:List Nat} {l:List Sp}
end
end Go.Proofs.YtmejhedegmjboaaGreat
namespace Go.Proofs.YtmejhedegmjboaaGreat
open Go.RowKit
end Go.Proofs.YtmejhedegmjboaaGreat
namespace Go.Proofs.YtmejhedegmjboaaGreat
open Go.RowKit
end Go.Proofs.YtmejhedegmjboaaGreat
namespace Go.Proofs.YtmejhedegmjboaaGreat
open Go.RowKit
def nI (v:Bool)(x:Nat):Nd:=⟨1,0,[105,110,116],0,v,(x:Int),false,0,false,0⟩
theorem Zjh (v:Bool)(x:Nat):(nI v x).Fits:=⟨fits_int.k0,fits_int.k1,fits_int.m0,fits_int.m1,fits_int.n0,fits_int.n1,fits_int.s1⟩
theorem Zgg {v:Bool}{x:Nat}(h:x < 18446744073709551616):(nI v x).TFits:=⟨⟨by simp[nI],by simp[nI];omega⟩,⟨by simp[nI],by simp[nI]⟩,⟨by simp[nI],by simp[nI]⟩⟩
theorem ZkQ:nFun.TFits:=⟨⟨by simp[nFun],by simp[nFun]⟩,⟨by simp[nFun],by simp[nFun]⟩,⟨by simp[nFun],by simp[nFun]⟩⟩
def sE2:Sch:=⟨1,0,[nFun,nI true 0,nI true 0],[],[]⟩
abbrev lS:Bo.Sr:=laOf [3,2]
abbrev xS:Bo.Sr:=efOf 1
def z2:Sen:=senS lS [0] [1] (rcB 1 []) (labB sE2.b)
theorem Zm6:sE2.check lS xS=0:=by decide+kernel
theorem Zji:lS.bot=0:=by decide+kernel
theorem Zl6:lS.top=1:=by decide+kernel
theorem Zgh:lS.has 0=true:=by decide+kernel
theorem Zgi {S:Bo.Sr}(hS:S.Ok){v:List Nat}(h:Bo.QV S 1 [] v)(hb:S.has S.bot=true):v= [S.bot]:=
 Bo.Ziz hS h ⟨Bo.Under.start hS fun _=>hb,fun b hb=>by cases hb⟩
theorem Zm7 {s:Sch}{w:World}{x:Int}{p q:Q4}(h:OfIs lS xS s w x p q)(hc:s.check lS xS=0)(h1:s.lv=1)(h2:s.ev=0)(hl:s.l= [])(he:s.e= []):x=0∧ZkT w (senS lS [0] [1] (rcB 1 []) (labB s.b)) p:=by
 rcases h with⟨hx,-,-,h|⟨-,-,h⟩⟩|⟨hx,ql,qe,lo,hi,lo',hi',hok,hp,-⟩
 ·exact absurd (h.symm.trans hc) hx
 ·(
 exfalso
 rcases h with⟨k,e,hn⟩|⟨k,e,hn⟩
 ·(
 have hk:k=1:=by omega
 subst hk
 have:=hn [0] ⟨rfl,fun i hi=>by
  obtain rfl:i=0:=by omega
  exact Zgh⟩
 rw[hl] at this
 cases this)
 ·(
 have hk:k=0:=by omega
 subst hk
 have:=hn [] ⟨rfl,fun i hi=>absurd hi (Nat.not_lt_zero i)⟩
 rw[he] at this
 cases this))
 ·(
 obtain rfl:ql=1:=by have:=hok.lv;omega
 have hS:=Qr [3,2]
 have g1:=hok.gl.low
 have g2:=hok.gl.high
 rw[hl] at g1 g2
 have hbb:lS.has lS.bot=true:=by rw[Zji];exact Zgh
 have e1:=Zgi hS g1 hbb
 have e2:=Zgi hS.turn g2 (hS.sub _ _ (hS.topl _ Zgh)).2
 rw[Zji] at e1
 replace e2:hi= [lS.top]:=e2
 rw[Zl6] at e2
 rw[e1,e2,hl] at hp
 exact⟨hx,hp⟩)
theorem Zgj (w:World):Calls Tryz.prog 24 #[] w fun e w'=> ∃g,e= .returned (zV (some ⟨g,0,none⟩) 2 2 1)∧Rd La.nm w' w'.heap.size (some ⟨g,0,none⟩) 2 2 [3,2]∧Below w.heap.size w w':=by
 obtain⟨x,hx⟩: ∃x,w.alloc (.cells #[.slice none 0 0,.int .i64 0] 24)=x:=⟨_,rfl⟩
 have b0:Below w.heap.size w x:=hx▸bA
 have sx:x.heap.size=w.heap.size+1:=by rw[← hx,World.size_alloc]
 have k0:x.heap[w.heap.size]?=some (.cells #[.slice none 0 0,.int .i64 0] 24 (0,0)):=hx▸heap_alloc_new w _
 obtain⟨y,hy⟩: ∃y,x.alloc (.cells #[.int .u64 3,.int .u64 2] 60)=y:=⟨_,rfl⟩
 have b1:Below x.heap.size x y:=hy▸bA
 have k1:y.heap[w.heap.size]?=some (.cells #[.slice none 0 0,.int .i64 0] 24 (0,0)):=(b1.block _ (by rw[sx];omega)).trans k0
 have k2:y.heap[x.heap.size]?=some (.cells #[.int .u64 3,.int .u64 2] 60 (0,0)):=hy▸heap_alloc_new x _
 have p0:=(Zb (i:=0) k1).trans rfl
 have p1:=(Zb (i:=1) k1).trans rfl
 have f0:y.frozen? ⟨w.heap.size,0,none⟩=false:=Zc k1
 have f1:y.frozen? ⟨w.heap.size,1,none⟩=false:=Zc k1
 have HK1:=Hd k1
 have HK2:=Hd k2
 have HB:=Hd (b0.trans (b1.mono b0.size))
 have HSX:=Hd sx
 clear b0 b1 k0 k1 k2 sx
 go_enter Tryz.func24,Tryz.ntmps24
 go_wp2_with fail
 clear hx hy
 refine bodyPost_ret (v:=zV (some ⟨x.heap.size,0,none⟩) 2 2 1) ?_ rfl ⟨x.heap.size,rfl,?_,?_⟩
 ·exact results_cell_row (P:=Tryz.prog) rfl _ _ w.heap.size 24 _ (0,0) _ rfl (Zm (Zm HK1.out _) _) Tryz.underlying24 rfl rfl
 ·have hne:x.heap.size≠w.heap.size:=by have:=HSX.out;omega
  have k2:((y.setCell ⟨w.heap.size,0,none⟩ (.slice (some ⟨x.heap.size,0,none⟩) 2 2)).setCell ⟨w.heap.size,1,none⟩ (.int .i64 1)).heap[x.heap.size]?=some (.cells #[.int .u64 3,.int .u64 2] 60 (0,0)):=(Below.heap_setCell _ _ _ _ hne).trans ((Below.heap_setCell _ _ _ _ hne).trans HK2.out)
  exact La.Rf (l:= [3,2]) k2 rfl (by decide)
 ·exact Zp (Zp HB.out lR _) lR _
structure B8 (w:World)(g:Nat)(A1:Option Addr)(n1 c1:Nat)(A2:Option Addr)(n2 c2:Nat)(A3:Option Addr)(n3 c3:Nat)(A4:Option Addr)(n4 c4:Nat)(B1:Option Addr)(m1 d1:Nat)(B2:Option Addr)(m2 d2:Nat)(B3:Option Addr)(m3 d3:Nat)(B4:Option Addr)(m4 d4:Nat):Prop where
 p0:w.cell? ⟨g,0,none⟩=some (.slice A1 n1 c1)
 p1:w.cell? ⟨g,1,none⟩=some (.slice A2 n2 c2)
 p2:w.cell? ⟨g,2,none⟩=some (.slice A3 n3 c3)
 p3:w.cell? ⟨g,3,none⟩=some (.slice A4 n4 c4)
 q0:w.cell? ⟨g+1,0,none⟩=some (.slice B1 m1 d1)
 q1:w.cell? ⟨g+1,1,none⟩=some (.slice B2 m2 d2)
 q2:w.cell? ⟨g+1,2,none⟩=some (.slice B3 m3 d3)
 q3:w.cell? ⟨g+1,3,none⟩=some (.slice B4 m4 d4)
theorem B8.keep {w W:World}{g:Nat}{A1:Option Addr}{n1 c1:Nat}{A2:Option Addr}{n2 c2:Nat}{A3:Option Addr}{n3 c3:Nat}{A4:Option Addr}{n4 c4:Nat}{B1:Option Addr}{m1 d1:Nat}{B2:Option Addr}{m2 d2:Nat}{B3:Option Addr}{m3 d3:Nat}{B4:Option Addr}{m4 d4:Nat}(h:B8 w g A1 n1 c1 A2 n2 c2 A3 n3 c3 A4 n4 c4 B1 m1 d1 B2 m2 d2 B3 m3 d3 B4 m4 d4)(hb:Below w.heap.size w W):B8 W g A1 n1 c1 A2 n2 c2 A3 n3 c3 A4 n4 c4 B1 m1 d1 B2 m2 d2 B3 m3 d3 B4 m4 d4:=
 ⟨Za h.p0 hb,Za h.p1 hb,Za h.p2 hb,Za h.p3 hb,Za h.q0 hb,Za h.q1 hb,Za h.q2 hb,Za h.q3 hb⟩
theorem B8.new (w:World)(A1:Option Addr)(n1 c1:Nat)(A2:Option Addr)(n2 c2:Nat)(A3:Option Addr)(n3 c3:Nat)(A4:Option Addr)(n4 c4:Nat)(B1:Option Addr)(m1 d1:Nat)(B2:Option Addr)(m2 d2:Nat)(B3:Option Addr)(m3 d3:Nat)(B4:Option Addr)(m4 d4:Nat):
  B8 ((w.alloc (.cells #[.slice A1 n1 c1,.slice A2 n2 c2,.slice A3 n3 c3,.slice A4 n4 c4] 28)).alloc (.cells #[.slice B1 m1 d1,.slice B2 m2 d2,.slice B3 m3 d3,.slice B4 m4 d4] 28)) w.heap.size A1 n1 c1 A2 n2 c2 A3 n3 c3 A4 n4 c4 B1 m1 d1 B2 m2 d2 B3 m3 d3 B4 m4 d4:=by
 obtain⟨x,hx⟩: ∃x,w.alloc (.cells #[.slice A1 n1 c1,.slice A2 n2 c2,.slice A3 n3 c3,.slice A4 n4 c4] 28)=x:=⟨_,rfl⟩
 have sx:x.heap.size=w.heap.size+1:=by rw[← hx,World.size_alloc]
 have b1:Below x.heap.size x (x.alloc (.cells #[.slice B1 m1 d1,.slice B2 m2 d2,.slice B3 m3 d3,.slice B4 m4 d4] 28)):=bA
 have k0:=(b1.block w.heap.size (by rw[sx];omega)).trans (hx▸heap_alloc_new w (.cells #[.slice A1 n1 c1,.slice A2 n2 c2,.slice A3 n3 c3,.slice A4 n4 c4] 28))
 have k1:=heap_alloc_new x (.cells #[.slice B1 m1 d1,.slice B2 m2 d2,.slice B3 m3 d3,.slice B4 m4 d4] 28)
 rw[sx] at k1
 rw[hx]
 exact⟨(Zb (i:=0) k0).trans rfl,(Zb (i:=1) k0).trans rfl,(Zb (i:=2) k0).trans rfl,(Zb (i:=3) k0).trans rfl,(Zb (i:=0) k1).trans rfl,(Zb (i:=1) k1).trans rfl,(Zb (i:=2) k1).trans rfl,(Zb (i:=3) k1).trans rfl⟩
theorem Zbv (w:World)(o o':Obj):Below w.heap.size w ((w.alloc o).alloc o'):=(bA).alloc (by simp) _
theorem ZkR: ∀x∈sE2.b,x.Fits:=Qs ZiP (Qs (Zjh _ _) (Qs (Zjh _ _) Zid))
theorem Zil: ∀x∈sE2.b,x.TFits:=fun x hx=>by
 simp only[sE2,List.mem_cons,List.not_mem_nil,or_false] at hx
 rcases hx with rfl|rfl|rfl
 ·exact ZkQ
 ·exact Zgg (by decide)
 ·exact Zgg (by decide)
abbrev oE2:Obj:= .cells #[.int .u8 5,.int .i64 0,.string (str []),.int .i64 2,.bool false,.int .u64 0,.bool false,.int .u64 0,.bool false,.int .u64 0,.int .u8 1,.int .i64 0,.string (str [105,110,116]),.int .i64 0,.bool true,.int .u64 0,.bool false,.int .u64 0,.bool false,.int .u64 0,.int .u8 1,.int .i64 0,.string (str [105,110,116]),.int .i64 0,.bool true,.int .u64 0,.bool false,.int .u64 0,.bool false,.int .u64 0] 116
theorem Zm8 (w:World):Zcn (w.alloc oE2) sE2 (some ⟨w.heap.size,0,none⟩) 3 3 none 0 0 none 0 0:=
 ⟨Rs.of_own Zgn (by decide) (Zei (l:= [nFun,nI true 0,nI true 0]) (n:=3) (heap_alloc_new w oE2) (Nat.zero_le _) rfl rfl (by unfold maxLen;omega)),ZkR,Zil,Rs.nil _ _,(fun _ h=>by cases h),Rs.nil _ _,fun _ h=>by cases h⟩
def Zim (z:I.Sen)(i j:Nat):Bool:=decide (I.sd z i=I.sd z j) &&
 ((decide (I.sd z i=1)||(decide (I.lw z i=I.lw z j) && (List.range z.p.length).all fun k=>I.bb z k i==I.bb z k j)) &&
  (decide (I.sd z i=0)||(decide (I.hg z i=I.hg z j) && (List.range z.p.length).all fun k=>I.bb z i k==I.bb z j k)))
theorem Zl7 {z:I.Sen}{i j:Nat}(h:Zim z i j=false): ¬I.Look z i j:=by
 intro hl
 obtain⟨h1,h2,h3⟩:=hl
 have:Zim z i j=true:=by(
 unfold Zim
 rw[Bool.and_eq_true,Bool.and_eq_true,Bool.or_eq_true,Bool.or_eq_true]
 refine⟨decide_eq_true h1,?_,?_⟩
 ·(
 by_cases e:I.sd z i=1
 ·exact .inl (decide_eq_true e)
 ·refine .inr ?_
  rw[Bool.and_eq_true,List.all_eq_true]
  exact⟨decide_eq_true (h2 e).1,fun k hk=>beq_iff_eq.2 ((h2 e).2 k (List.mem_range.1 hk))⟩)
 ·(
 by_cases e:I.sd z i=0
 ·exact .inl (decide_eq_true e)
 ·refine .inr ?_
  rw[Bool.and_eq_true,List.all_eq_true]
  exact⟨decide_eq_true (h3 e).1,fun k hk=>beq_iff_eq.2 ((h3 e).2 k (List.mem_range.1 hk))⟩))
 rw[h] at this
 cases this
abbrev zL:I.Sen:=toI z2
theorem Zjj:zL.p.length=4:=by decide+kernel
theorem Zm9:(List.range 4).all (fun i=>(List.range i).all fun j=> !Zim zL j i)=true:=by decide+kernel
theorem Zin {i:Nat}(h:i < 4):I.first zL i=i:=I.YY fun j hj _=>Zl7 (by
 have h1:=List.all_eq_true.1 Zm9 i (List.mem_range.2 h)
 have h2:=List.all_eq_true.1 h1 j (List.mem_range.2 hj)
 simpa using h2)
theorem Zel (w:World):Calls Tryz.prog 25 #[] w fun e w'=> ∃g,e= .returned (schV sE2 (some ⟨g,0,none⟩) 3 3 none 0 0 none 0 0)∧Zcn w' sE2 (some ⟨g,0,none⟩) 3 3 none 0 0 none 0 0∧Below w.heap.size w w':=by
 obtain⟨x,hx⟩: ∃x,w.alloc (.cells #[.int .i64 1,.int .i64 0,.slice (some ⟨w.heap.size+1+1,0,none⟩) 3 3,.slice none 0 0,.slice none 0 0] 49)=x:=⟨_,rfl⟩
 obtain⟨y,hy⟩: ∃y,x.alloc (.cells #[.bool true,.int .u64 0] 62)=y:=⟨_,rfl⟩
 have b0:Below w.heap.size w x:=hx▸bA
 have sx:x.heap.size=w.heap.size+1:=by rw[← hx,World.size_alloc]
 have b1:Below x.heap.size x y:=hy▸bA
 have sy:y.heap.size=w.heap.size+1+1:=by rw[← hy,World.size_alloc,sx]
 have b2:Below y.heap.size y (y.alloc oE2):=bA
 have k0:(y.alloc oE2).heap[w.heap.size]?=some (.cells #[.int .i64 1,.int .i64 0,.slice (some ⟨w.heap.size+1+1,0,none⟩) 3 3,.slice none 0 0,.slice none 0 0] 49 (0,0)):=(b2.block _ (by rw[sy];omega)).trans ((b1.block _ (by rw[sx];omega)).trans (hx▸heap_alloc_new w _))
 have hs:=Zm8 y
 rw[sy] at hs
 have hb:Below w.heap.size w (y.alloc oE2):=b0.trans ((b1.trans (b2.mono b1.size)).mono b0.size)
 have HK:=Hd k0
 have HS:=Hd hs
 have HB:=Hd hb
 clear b0 b1 b2 sx sy k0 hs hb
 subst hx hy
 unfold schV
 go_enter Tryz.func25,Tryz.ntmps25
 go_wp2_with fail
 refine bodyPost_ret (v:=schV sE2 (some ⟨w.heap.size+1+1,0,none⟩) 3 3 none 0 0 none 0 0) ?_ rfl ⟨_,rfl,HS.out,HB.out⟩
 exact results_cell_row (P:=Tryz.prog) rfl _ _ w.heap.size 49 _ (0,0) _ rfl HK.out Tryz.underlying49 rfl rfl
end Go.Proofs.YtmejhedegmjboaaGreat
