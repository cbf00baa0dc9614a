/- What Of of rows tells. Condition: the sense can be read. -/
import Derived.Test.YtmejhedegmjboaaGreatRwF
namespace Go.Proofs.YtmejhedegmjboaaGreat.I
open Go.RowKit
def nmI (k:Nat):Value:= .int .i64 (k:Int)
def icl (l:List Nat):Array Value:=(l.map nmI).toArray
theorem icl_at {l:List Nat}{j:Nat}(h:j < l.length):(icl l)[j]?=some (.int .i64 (l[j]:Int)):=by
 rw[icl,List.getElem?_toArray,List.getElem?_map,List.getElem?_eq_getElem h]
 rfl
theorem icl_set (l:List Nat)(j v:Nat):(icl l).setIfInBounds j (.int .i64 (v:Int))=icl (l.set j v):=by
 simp[icl,List.map_set,nmI]
theorem make_in (n:Nat)(h:n≤65536)(W:World):(Instr.makeSlice 82 (.int .i64 (n:Int)) (.int .i64 (n:Int))).run Tryz.prog W= .ok (.slice (some ⟨W.heap.size,0,none⟩) n n) (W.alloc (.cells (icl (List.replicate n 0)) 3)):=by
 obtain⟨i0,hi0,hz0,hz1,hz2⟩:=info_parts int_inf
 have:=run_make (P:=Tryz.prog) W 82 3 i0 _ Tryz.underlying82 hi0 hz0 .i64 .i64 n n (by omega) (Int.le_refl _) (by rw[hz2];omega) (by omega)
 rw[this,hz1,Nat.mul_one,Int.toNat_natCast]
 rw[show(Value.int .i64 0).cells= #[.int .i64 0] from rfl,show madeCells #[.int .i64 0] n=icl (List.replicate n 0) from ?_]
 apply Array.ext
 ·simp[madeCells,icl]
 ·intro i h1 h2
  simp[madeCells,icl,nmI,Nat.mod_one]
theorem rd_in {w:World}{g n:Nat}{l:List Nat}(h:w.heap[g]?=some (.cells (icl l) 3 (0,0)))(hl:l.length=n)(hn:n≤1000000):Rd nmI w w.heap.size (some ⟨g,0,none⟩) n n l:=
 ⟨hl,Nat.le_refl _,by unfold maxLen;omega,(fun h=>by cases h),fun _=>⟨g,0,rfl,lt_blk h,fun j hj=>by rw[Nat.zero_add,cell_blk h,icl_at hj];rfl⟩⟩
noncomputable def ofL (z:Sen) (n i:Nat):List Nat:=(List.range n).map fun k=>if k < i then first z k else 0
theorem ofL_len (z:Sen)(n i:Nat):(ofL z n i).length=n:=by simp[ofL]
theorem ofL_zero (z:Sen)(n:Nat):List.replicate n 0=ofL z n 0:=by
 apply List.ext_getElem (by simp[ofL])
 intro k h1 h2
 simp[ofL]
theorem ofL_next (z:Sen)(n i:Nat):(ofL z n i).set i (first z i)=ofL z n (i+1):=by
 apply List.ext_getElem (by simp[ofL])
 intro k h1 h2
 rw[List.getElem_set]
 by_cases e:i=k
 ·subst e;simp[ofL]
 ·rw[if_neg e]
  simp only[ofL,List.getElem_map,List.getElem_range]
  by_cases h:k < i
  ·rw[if_pos h,if_pos (by omega)]
  ·rw[if_neg h,if_neg (by omega)]
theorem ofL_all (z:Sen)(n:Nat):ofL z n n=(List.range n).map (first z):=by
 apply List.map_congr_left
 intro k hk
 rw[if_pos (List.mem_range.1 hk)]
structure OfS (z:Sen)(w W:World)(ga b1 b2 m:Nat)(f:Nm)(m2:Nat)(g:Key→Option Nat)(L:List Nat):Prop where
 bel:Below w.heap.size w W
 a:W.heap[ga]?=some (.cells (icl L) 3 (0,0))
 m1:MapIs enP 241 60 .u64 W b1 m f
 m2:MapIs enK 202 3 .i64 W b2 m2 g
 sh:Shelf f m
 hb:w.heap.size < ga∧w.heap.size < b1∧w.heap.size < b2∧ga≠b1∧ga≠b2∧b1≠b2
section
variable {z:Sen} {w W V:World} {ga b1 b2 m:Nat} {f:Nm} {m2:Nat} {g:Key→Option Nat} {L:List Nat} (h:OfS z w W ga b1 b2 m f m2 g L)
include h
theorem OfS.keep (hb:Below W.heap.size W V):OfS z w V ga b1 b2 m f m2 g L:=
 ⟨h.bel.trans (hb.mono h.bel.size),(hb.block _ (lt_blk h.a)).trans h.a,h.m1.below hb,h.m2.below hb,h.sh,h.hb⟩
theorem OfS.set (i v:Nat):OfS z w (W.setCell ⟨ga,i,none⟩ (.int .i64 (v:Int))) ga b1 b2 m f m2 g (L.set i v):=by
 obtain⟨c1,c2,c3,c4,c5,c6⟩:=h.hb
 exact⟨below_set h.bel (Nat.le_of_lt c1) _,by rw[← icl_set];exact set_blk h.a _,h.m1.move (Below.heap_setCell _ ⟨ga,i,none⟩ _ b1 (Ne.symm c4)),h.m2.move (Below.heap_setCell _ ⟨ga,i,none⟩ _ b2 (Ne.symm c5)),h.sh,h.hb⟩
theorem OfS.look {n i m':Nat}{x:Key}{f':Nm}(k:LkIs W V b1 m n f z i x m' f'):OfS z w V ga b1 b2 m' f' m2 g L:=by
 obtain⟨c1,c2,c3,c4,c5,c6⟩:=h.hb
 exact⟨h.bel.trans (k.kept.below h.bel.size fun b e=>by subst e;omega),(k.kept.block _ (lt_blk h.a) c4).trans h.a,k.map,h.m2.kept k.kept (Ne.symm c6),k.sh,h.hb⟩
theorem OfS.put {m3:Nat}{g':Key→Option Nat}(k:Kept (· =b2) W V)(hm:MapIs enK 202 3 .i64 V b2 m3 g'):OfS z w V ga b1 b2 m f m3 g' L:=by
 obtain⟨c1,c2,c3,c4,c5,c6⟩:=h.hb
 exact⟨h.bel.trans (k.below h.bel.size fun b e=>by subst e;omega),(k.block _ (lt_blk h.a) c5).trans h.a,h.m1.kept k c6,hm,h.sh,h.hb⟩
theorem OfS.zb {A1:Option Addr}{n1 c1:Nat}{A2:Option Addr}{n2 c2:Nat}{A3:Option Addr}{n3 c3:Nat}{A4:Option Addr}{n4 c4:Nat}(k:ZB W w.heap.size A1 n1 c1 A2 n2 c2 A3 n3 c3 A4 n4 c4)(i:Nat)(u:Value):ZB (W.setCell ⟨ga,i,none⟩ u) w.heap.size A1 n1 c1 A2 n2 c2 A3 n3 c3 A4 n4 c4:=by
 have off: ∀o,(W.setCell ⟨ga,i,none⟩ u).cell? ⟨w.heap.size,o,none⟩=W.cell? ⟨w.heap.size,o,none⟩:=fun o=>World.cell?_of_block (a:=⟨w.heap.size,o,none⟩) (Below.heap_setCell _ ⟨ga,i,none⟩ u w.heap.size (by have:=h.hb.1;show w.heap.size≠ga;omega))
 exact⟨(off 0).trans k.p0,(off 1).trans k.p1,(off 2).trans k.p2,(off 3).trans k.p3⟩
theorem OfS.zbk {b:Nat}(hb:w.heap.size < b)(k:Kept (· =b) W V){A1:Option Addr}{n1 c1:Nat}{A2:Option Addr}{n2 c2:Nat}{A3:Option Addr}{n3 c3:Nat}{A4:Option Addr}{n4 c4:Nat}(q:ZB W w.heap.size A1 n1 c1 A2 n2 c2 A3 n3 c3 A4 n4 c4):ZB V w.heap.size A1 n1 c1 A2 n2 c2 A3 n3 c3 A4 n4 c4:=by
 have hlt:w.heap.size < W.heap.size:=Nat.lt_trans h.hb.1 (lt_blk h.a)
 have off: ∀o,V.cell? ⟨w.heap.size,o,none⟩=W.cell? ⟨w.heap.size,o,none⟩:=fun o=>k.cell (p:=⟨w.heap.size,o,none⟩) hlt (by show ¬w.heap.size=b;omega)
 exact⟨(off 0).trans q.p0,(off 1).trans q.p1,(off 2).trans q.p2,(off 3).trans q.p3⟩
end
def OfIsR (z:Sen)(w w':World)(A:Option Addr)(n c:Nat):Prop:=
 Below w.heap.size w w'∧((wholeS z=false∧A=none∧n=0∧c=0)∨
  (wholeS z=true∧ ∃ga,A=some ⟨ga,0,none⟩∧n=z.p.length∧c=n∧w.heap.size < ga∧w'.heap[ga]?=some (.cells (icl (ofL z n n)) 3 (0,0))))
theorem OfIsR.rd {z:Sen}{w w':World}{A:Option Addr}{n c:Nat}(h:OfIsR z w w' A n c)(hn:z.p.length≤1000):Rd nmI w' w'.heap.size A n c (alF z):=by
 rcases h.2 with⟨hw,rfl,rfl,rfl⟩|⟨hw,ga,rfl,rfl,rfl,-,hf⟩
 ·unfold alF
  rw[hw]
  exact Rd.nil _ _
 ·rw[ofL_all] at hf
  unfold alF
  rw[if_pos hw]
  exact rd_in hf (by simp) (by omega)
theorem wf_i64 {a:Nat}(h:a≤1000000):(Lit.int .i64 (a:Int)).wf=true:=by
 simp[Lit.wf,IntKind.min,IntKind.max,IntKind.signed,IntKind.bits]
 omega
set_option maxRecDepth 100000 in
set_option maxHeartbeats 8000000 in
theorem rowsOf_any (v:Value)(z:Sen)(A1:Option Addr)(n1 c1:Nat)(A2:Option Addr)(n2 c2:Nat)(A3:Option Addr)(n3 c3:Nat)(A4:Option Addr)(n4 c4:Nat)(w:World)(h:SenAt w z A1 n1 c1 A2 n2 c2 A3 n3 c3 A4 n4 c4)(hn:n1≤400):
  Calls Tryz.prog 84 #[v,senV A1 n1 c1 A2 n2 c2 A3 n3 c3 A4 n4 c4] w fun e w'=> ∃A n c,e= .returned (.slice A n c)∧OfIsR z w w' A n c:=by
 obtain⟨r,hr⟩: ∃r,wholeS z=r:=⟨_,rfl⟩
 have HR:=Lib.hid hr
 have HSW:Hid (∀W,Below w.heap.size w W→SenAt W z A1 n1 c1 A2 n2 c2 A3 n3 c3 A4 n4 c4):=Lib.hid fun W hW=>h.keep hW
 have hwh:=fun W (hW:Below w.heap.size w W)=>whole_any A1 n1 c1 A2 n2 c2 A3 n3 c3 A4 n4 c4 z W (h.keep hW) r hr
 have HWH:=Lib.hid hwh
 have HN:=Lib.hid hn
 have HLEN:=Lib.hid h.rp.len
 have hz0:=ZB.of (heap_alloc_new w (.cells #[.slice A1 n1 c1,.slice A2 n2 c2,.slice A3 n3 c3,.slice A4 n4 c4] 28))
 have hb0:Below w.heap.size w (w.alloc (.cells #[.slice A1 n1 c1,.slice A2 n2 c2,.slice A3 n3 c3,.slice A4 n4 c4] 28)):=(Below.refl _ _).alloc (Nat.le_refl _) _
 have HZ0:=Lib.hid hz0
 have HB0:=Lib.hid hb0
 clear hwh hr h hn hz0 hb0
 unfold senV at HWH ⊢
 have hmm:= @run_makeMap Tryz.prog
 have hmk: ∀W,(Instr.makeSlice 82 (.int .i64 (n1:Int)) (.int .i64 (n1:Int))).run Tryz.prog W= .ok (.slice (some ⟨W.heap.size,0,none⟩) n1 n1) (W.alloc (.cells (icl (List.replicate n1 0)) 3)):=fun W=>make_in n1 (by have:=HN.out;omega) W
 cases r with
 |false=>
  go_enter Tryz.func84,Tryz.ntmps84
  go_wp2_with fail
  refine(HWH.out _ HB0.out).mono ?_
  rintro e w1 ⟨rfl,hv⟩
  have HB1:=Lib.hid (HB0.out.trans (hv.mono HB0.out.size))
  clear hv HWH
  go_wp2_with fail
  go_ret
  exact⟨none,0,0,rfl,HB1.out,.inl ⟨HR.out,rfl,rfl,rfl⟩⟩
 |true=>
  go_enter Tryz.func84,Tryz.ntmps84
  go_wp2_with fail
  refine(HWH.out _ HB0.out).mono ?_
  rintro e w1 ⟨rfl,hv⟩
  have HB1:=Lib.hid (HB0.out.trans (hv.mono HB0.out.size))
  have hz1:=HZ0.out.keep hv
  have HZ1:=Lib.hid hz1
  have y0:=hz1.p0
  have q3:Below w1.heap.size w1 (((w1.alloc (.cells (icl (List.replicate n1 0)) 3)).alloc (.map #[] 0)).alloc (.map #[] 0)):=(((Below.refl _ _).alloc (Nat.le_refl _) _).alloc (by simp) _).alloc (by simp;omega) _
  have y3:=cell_old y0 q3
  have hst:OfS z w (((w1.alloc (.cells (icl (List.replicate n1 0)) 3)).alloc (.map #[] 0)).alloc (.map #[] 0)) w1.heap.size (w1.heap.size+1) (w1.heap.size+1+1) 0 (fun _=>none) 0 (fun _=>none) (ofL z n1 0):=by
   obtain⟨x,hx⟩: ∃x,w1.alloc (.cells (icl (List.replicate n1 0)) 3)=x:=⟨_,rfl⟩
   obtain⟨y,hy⟩: ∃y,x.alloc (.map #[] 0)=y:=⟨_,rfl⟩
   have sx:x.heap.size=w1.heap.size+1:=by rw[← hx,World.size_alloc]
   have sy:y.heap.size=w1.heap.size+1+1:=by rw[← hy,World.size_alloc,sx]
   have k0:x.heap[w1.heap.size]?=some (.cells (icl (List.replicate n1 0)) 3 (0,0)):=hx▸heap_alloc_new w1 _
   have b1:Below x.heap.size x y:=hy▸(Below.refl _ _).alloc (Nat.le_refl _) _
   have b2:Below y.heap.size y (y.alloc (.map #[] 0)):=(Below.refl _ _).alloc (Nat.le_refl _) _
   have m1:MapIs enP 241 60 .u64 y (w1.heap.size+1) 0 (fun _=>none):=by rw[← sx, ← hy];exact MapIs.made x
   have m2:MapIs enK 202 3 .i64 (y.alloc (.map #[] 0)) (w1.heap.size+1+1) 0 (fun _=>none):=by rw[← sy];exact MapIs.made y
   have h0:=World.block_lt_of_cell? w1 _ y0
   replace h0:w.heap.size < w1.heap.size:=h0
   rw[hx,hy] at q3 ⊢
   exact⟨HB1.out.trans (q3.mono (Nat.le_of_lt h0)),by rw[← ofL_zero];exact(b2.block _ (by rw[sy];omega)).trans ((b1.block _ (by rw[sx];omega)).trans k0),m1.below b2,m2,Shelf.empty,by omega⟩
  have hzz:=HZ1.out.keep q3
  have HST:=Lib.hid hst
  have HZZ:=Lib.hid hzz
  clear hv HWH HB0 HZ0 hz1 hst q3 hzz
  go_wp2_with fail
  clear y0 y3 hmm hmk HB1 HZ1
  generalize ((w1.alloc (.cells (icl (List.replicate n1 0)) 3)).alloc (.map #[] 0)).alloc (.map #[] 0)=w3 at*
  obtain⟨ga,hga⟩: ∃u,w1.heap.size=u:=⟨_,rfl⟩
  simp only[hga] at*
  obtain⟨b1,hb1⟩: ∃u,ga+1=u:=⟨_,rfl⟩
  simp only[hb1] at*
  obtain⟨b2,hb2⟩: ∃u,b1+1=u:=⟨_,rfl⟩
  simp only[hb2] at*
  clear hga hb1 hb2
  go_loopw [25] (fun v25 wr=> ∃(i m:Nat) (f:Nm) (m2:Nat) (g:Key→Option Nat),v25= .int .i64 (i:Int)∧i≤n1∧OfS z w wr ga b1 b2 m f m2 g (ofL z n1 i)∧OfInv f g z i∧m≤i*800∧m2≤i∧ZB wr w.heap.size A1 n1 c1 A2 n2 c2 A3 n3 c3 A4 n4 c4) (fun v25 _=>n1 - (intOf v25).toNat)
  case atStart=>exact⟨0,0,_,0,_,rfl,Nat.zero_le _,HST.out,OfInv.zero _ _,Nat.zero_le _,Nat.le_refl _,HZZ.out⟩
  case round=>
   clear HST HZZ
   obtain⟨i,m,f,m2,g,rfl,hi,hst,hinv,hm,hm2,hzb⟩:=hrel
   by_cases hlt:i < n1
   ·have hsn:=HSW.out w (Below.refl _ _)
    obtain⟨a1,a2,a3,a4,a5⟩:=whole_iff.1 HR.out
    have hl1:=HLEN.out
    have hl4:=hsn.rb.len
    have hip:i < z.p.length:=by omega
    obtain⟨p0,o0,rfl,-,e0,e1,e2,e3,e4⟩:=spot_at hsn.rp hip
    obtain⟨p4,o4,p5,o5,y5,rfl,k1,k2⟩:=be_cell hsn HR.out hip hip
    have hs2:=a4 _ (List.getElem_mem hip)
    have HSD:=Lib.hid (sd_at hip)
    generalize z.p[i]=sp at*
    obtain⟨xn,xp,xs,xv,xz⟩:=sp
    simp only at e0 e1 e2 e3 e4 hs2
    have HSD:Hid (sd z i=xs):=HSD
    obtain⟨x,hx⟩: ∃x,bb z i i=x:=⟨_,rfl⟩
    rw[hx] at k2
    have HX:=Lib.hid hx
    have HINV:=Lib.hid hinv
    have HMM:=Lib.hid (show m≤i*800∧m2≤i from⟨hm,hm2⟩)
    have HLT:=Lib.hid hlt
    have hin:(i:Int) < (n1:Int):=by omega
    have hin4:(i:Int) < (n4:Int):=by omega
    have hi9:i≤400:=by have:=HN.out;omega
    have hal:Below wr.heap.size wr (wr.alloc (.cells #[.int .i64 xn,.int .u8 (xp:Int),.int .u8 (xs:Int),.bool xv,.int .u64 xz] 67)):=(Below.refl _ _).alloc (Nat.le_refl _) _
    have hsa:=hst.keep hal
    have hzz:=hzb.keep hal
    have d0:=(cell_blk (i:=i) hsa.a).trans (icl_at (by rw[ofL_len];exact hlt))
    have f0:=frozen_blk (i:=i) hsa.a
    generalize (ofL z n1 i)[i]'_=vx at*
    have hss:=hsa.set i i
    have hzs:=hsa.zb hzz i (.int .i64 (i:Int))
    have ks1:=cell_old k1 hss.bel
    have ks2:=cell_old k2 hss.bel
    have ks3:((wr.alloc (.cells #[.int .i64 xn,.int .u8 (xp:Int),.int .u8 (xs:Int),.bool xv,.int .u64 xz] 67)).setCell ⟨ga,i,none⟩ (.int .i64 (i:Int))).cell? ⟨wr.heap.size,2,none⟩=some (.int .u8 (xs:Int)):=
     (World.cell?_of_block (a:=⟨wr.heap.size,2,none⟩) (Below.heap_setCell _ ⟨ga,i,none⟩ _ wr.heap.size (by have:=lt_blk hst.a;show wr.heap.size≠ga;omega))).trans ((cell_blk (i:=2) (heap_alloc_new wr _)).trans rfl)
    replace e0:=cell_old e0 hst.bel
    replace e1:=cell_old e1 hst.bel
    replace e2:=cell_old e2 hst.bel
    replace e3:=cell_old e3 hst.bel
    replace e4:=cell_old e4 hst.bel
    have HSS:=Lib.hid hss
    have HZS:=Lib.hid hzs
    have zz0:=hzs.p0
    have zz1:=hzs.p1
    have zz2:=hzs.p2
    have zz3:=hzs.p3
    clear hi hst hinv hm hm2 hzb hsn a1 a2 a3 a4 a5 hl1 hl4 hip hx hal hsa hzz hss hzs k1 k2
    by_cases h2:xs=2
    ·have g0:((xs:Int)==2)=true:=by subst h2;rfl
     have HS2:=Lib.hid (HSD.out.trans h2)
     clear hs2 h2
     cases x with
     |false=>
      have HOK:Hid (okA z i=false):=Lib.hid (by unfold okA;rw[HS2.out,HX.out];rfl)
      have HSK:=Lib.hid (HINV.out.skip HOK.out)
      go_wp2_with fail
      go_roundw
      case rel=>exact⟨i+1,m,f,m2,g,by go_num,HLT.out,by rw[← ofL_next,HSK.out.1];exact HSS.out,HSK.out.2,by have:=HMM.out;omega,by have:=HMM.out;omega,HZS.out⟩
      case measure=>
       have:=HLT.out
       simp[intOf]
       omega
     |true=>
      have HOK:Hid (okA z i=true):=Lib.hid (by unfold okA;rw[HX.out];simp)
      go_wp2_with fail
      clear e0 e1 e2 e3 e4 d0 f0 ks1 ks2 ks3 zz0 zz1 zz2 zz3 g0
      generalize (wr.alloc (.cells #[.int .i64 xn,.int .u8 (xp:Int),.int .u8 (xs:Int),.bool xv,.int .u64 xz] 67)).setCell ⟨ga,i,none⟩ (.int .i64 (i:Int))=ws at*
      have HLK:=Lib.hid (look_any i b1 m f z (some ⟨p0,o0,none⟩) n1 c1 A2 n2 c2 A3 n3 c3 (some ⟨p4,o4,none⟩) n4 c4 ws HR.out HLT.out (by have:=HN.out;omega) (by have:=HMM.out;have:=HLT.out;have:=HN.out;omega) HSS.out.m1 HSS.out.sh (fun W hW=>HSW.out W (HSS.out.bel.trans (hW.below HSS.out.bel.size (fun b e=>by have:=HSS.out.hb;subst e;omega)))))
      unfold senV at HLK
      refine HLK.out.mono ?_
      rintro e w5 ⟨x,m',f',rfl,hk⟩
      obtain⟨x0,x1,x2,x3,x4⟩:=x
      have HKEY:=Lib.hid (keyK (x:=(x0,x1,x2,x3,x4)) (by have:=hk.x0;simp only at this ⊢;omega) hk.x1 hk.x2 hk.x3 hk.x4)
      have hal:Below w5.heap.size w5 (w5.alloc (.cells (lkC x0 x1 x2 x3 x4) 202)):=(Below.refl _ _).alloc (Nat.le_refl _) _
      have HS6:=Lib.hid ((HSS.out.look hk).keep hal)
      have HZ6:=Lib.hid ((HSS.out.zbk HSS.out.hb.2.1 hk.kept HZS.out).keep hal)
      have HLI:=Lib.hid hk.is
      have HEX:=Lib.hid hk.ext
      have HM6:=Lib.hid (show m'≤(i+1)*800 by have:=hk.le;have:=HMM.out;have:=HN.out;omega)
      clear hk hal HLK HZS
      simp only[enK]
      obtain⟨o,ho⟩: ∃o,g (x0,x1,x2,x3,x4)=o:=⟨_,rfl⟩
      have HO:=Lib.hid ho
      clear ho
      cases o with
      |some vv=>
       have HIT:=Lib.hid (HINV.out.hit HEX.out HS6.out.sh HOK.out HLI.out HO.out)
       have d0:=(cell_blk (i:=i) HS6.out.a).trans (icl_at (by rw[List.length_set,ofL_len];exact HLT.out))
       have f0:=frozen_blk (i:=i) HS6.out.a
       generalize ((ofL z n1 i).set i i)[i]'_=vx2 at*
       go_wp2_with (at_lookup;refine wp_look_ok rfl _ _ 200 rfl lawK Tryz.underlying200 Tryz.underlying3 zero3 HS6.out.m2 rfl (x0,x1,x2,x3,x4) rfl HKEY.out vv (by rw[HO.out];rfl) true (by rw[HO.out];rfl) ?_)
       have hs7:=HS6.out.set i vv
       have HS7:=Lib.hid hs7
       have HZ7:=Lib.hid (HS6.out.zb HZ6.out i (.int .i64 (vv:Int)))
       clear hs7
       go_roundw
       case rel=>exact⟨i+1,m',f',m2,g,by go_num,HLT.out,by rw[← ofL_next, ← HIT.out.1, ← List.set_set];exact HS7.out,HIT.out.2,HM6.out,by have:=HMM.out;omega,HZ7.out⟩
       case measure=>
        have:=HLT.out
        simp[intOf]
        omega
      |none=>
       have HMI:=Lib.hid (HINV.out.miss HEX.out HOK.out HLI.out HO.out)
       go_wp2_with (first
        |(at_lookup;refine wp_look_ok rfl _ _ 200 rfl lawK Tryz.underlying200 Tryz.underlying3 zero3 HS6.out.m2 rfl (x0,x1,x2,x3,x4) rfl HKEY.out 0 (by rw[HO.out];rfl) false (by rw[HO.out];rfl) ?_)
        |(at_mapUpdate;refine wp_put rfl _ _ _ 200 rfl lawK Tryz.underlying200 Tryz.underlying3 enK_inj HS6.out.m2 rfl (x0,x1,x2,x3,x4) rfl HKEY.out i rfl (wf_i64 (by have:=HLT.out;have:=HN.out;omega)) (by have:=HMM.out;have:=HLT.out;have:=HN.out;unfold maxLen;omega) HO.out ?_;intro w7 hm7 hk7;have HS7:=Lib.hid (HS6.out.put hk7 hm7);have HZ7:=Lib.hid (HS6.out.zbk HS6.out.hb.2.2.1 hk7 HZ6.out);clear hm7 hk7))
       go_roundw
       case rel=>exact⟨i+1,m',f',m2+1,_,by go_num,HLT.out,by rw[← ofL_next,HMI.out.1];exact HS7.out,HMI.out.2,HM6.out,by have:=HMM.out;omega,HZ7.out⟩
       case measure=>
        have:=HLT.out
        simp[intOf]
        omega
    ·have g0:((xs:Int)==2)=false:=by rw[beq_eq_false_iff_ne];omega
     have HOK:Hid (okA z i=true):=Lib.hid (by unfold okA;rw[HSD.out,decide_eq_false h2];rfl)
     clear hs2 h2
     go_wp2_with fail
     clear e0 e1 e2 e3 e4 d0 f0 ks1 ks2 ks3 zz0 zz1 zz2 zz3 g0
     generalize (wr.alloc (.cells #[.int .i64 xn,.int .u8 (xp:Int),.int .u8 (xs:Int),.bool xv,.int .u64 xz] 67)).setCell ⟨ga,i,none⟩ (.int .i64 (i:Int))=ws at*
     have HLK:=Lib.hid (look_any i b1 m f z (some ⟨p0,o0,none⟩) n1 c1 A2 n2 c2 A3 n3 c3 (some ⟨p4,o4,none⟩) n4 c4 ws HR.out HLT.out (by have:=HN.out;omega) (by have:=HMM.out;have:=HLT.out;have:=HN.out;omega) HSS.out.m1 HSS.out.sh (fun W hW=>HSW.out W (HSS.out.bel.trans (hW.below HSS.out.bel.size (fun b e=>by have:=HSS.out.hb;subst e;omega)))))
     unfold senV at HLK
     refine HLK.out.mono ?_
     rintro e w5 ⟨x,m',f',rfl,hk⟩
     obtain⟨x0,x1,x2,x3,x4⟩:=x
     have HKEY:=Lib.hid (keyK (x:=(x0,x1,x2,x3,x4)) (by have:=hk.x0;simp only at this ⊢;omega) hk.x1 hk.x2 hk.x3 hk.x4)
     have hal:Below w5.heap.size w5 (w5.alloc (.cells (lkC x0 x1 x2 x3 x4) 202)):=(Below.refl _ _).alloc (Nat.le_refl _) _
     have HS6:=Lib.hid ((HSS.out.look hk).keep hal)
     have HZ6:=Lib.hid ((HSS.out.zbk HSS.out.hb.2.1 hk.kept HZS.out).keep hal)
     have HLI:=Lib.hid hk.is
     have HEX:=Lib.hid hk.ext
     have HM6:=Lib.hid (show m'≤(i+1)*800 by have:=hk.le;have:=HMM.out;have:=HN.out;omega)
     clear hk hal HLK HZS
     simp only[enK]
     obtain⟨o,ho⟩: ∃o,g (x0,x1,x2,x3,x4)=o:=⟨_,rfl⟩
     have HO:=Lib.hid ho
     clear ho
     cases o with
     |some vv=>
      have HIT:=Lib.hid (HINV.out.hit HEX.out HS6.out.sh HOK.out HLI.out HO.out)
      have d0:=(cell_blk (i:=i) HS6.out.a).trans (icl_at (by rw[List.length_set,ofL_len];exact HLT.out))
      have f0:=frozen_blk (i:=i) HS6.out.a
      generalize ((ofL z n1 i).set i i)[i]'_=vx2 at*
      go_wp2_with (at_lookup;refine wp_look_ok rfl _ _ 200 rfl lawK Tryz.underlying200 Tryz.underlying3 zero3 HS6.out.m2 rfl (x0,x1,x2,x3,x4) rfl HKEY.out vv (by rw[HO.out];rfl) true (by rw[HO.out];rfl) ?_)
      have hs7:=HS6.out.set i vv
      have HS7:=Lib.hid hs7
      have HZ7:=Lib.hid (HS6.out.zb HZ6.out i (.int .i64 (vv:Int)))
      clear hs7
      go_roundw
      case rel=>exact⟨i+1,m',f',m2,g,by go_num,HLT.out,by rw[← ofL_next, ← HIT.out.1, ← List.set_set];exact HS7.out,HIT.out.2,HM6.out,by have:=HMM.out;omega,HZ7.out⟩
      case measure=>
       have:=HLT.out
       simp[intOf]
       omega
     |none=>
      have HMI:=Lib.hid (HINV.out.miss HEX.out HOK.out HLI.out HO.out)
      go_wp2_with (first
       |(at_lookup;refine wp_look_ok rfl _ _ 200 rfl lawK Tryz.underlying200 Tryz.underlying3 zero3 HS6.out.m2 rfl (x0,x1,x2,x3,x4) rfl HKEY.out 0 (by rw[HO.out];rfl) false (by rw[HO.out];rfl) ?_)
       |(at_mapUpdate;refine wp_put rfl _ _ _ 200 rfl lawK Tryz.underlying200 Tryz.underlying3 enK_inj HS6.out.m2 rfl (x0,x1,x2,x3,x4) rfl HKEY.out i rfl (wf_i64 (by have:=HLT.out;have:=HN.out;omega)) (by have:=HMM.out;have:=HLT.out;have:=HN.out;unfold maxLen;omega) HO.out ?_;intro w7 hm7 hk7;have HS7:=Lib.hid (HS6.out.put hk7 hm7);have HZ7:=Lib.hid (HS6.out.zbk HS6.out.hb.2.2.1 hk7 HZ6.out);clear hm7 hk7))
      go_roundw
      case rel=>exact⟨i+1,m',f',m2+1,_,by go_num,HLT.out,by rw[← ofL_next,HMI.out.1];exact HS7.out,HMI.out.2,HM6.out,by have:=HMM.out;omega,HZ7.out⟩
      case measure=>
       have:=HLT.out
       simp[intOf]
       omega
   ·obtain rfl:i=n1:=by omega
    have HF:=Lib.hid hst
    clear hlt hst hinv hm hm2 hzb
    go_wp2_with fail
    go_ret
    exact⟨_,_,_,rfl,HF.out.bel,.inr ⟨HR.out,ga,rfl,HLEN.out.symm,rfl,HF.out.hb.1,HF.out.a⟩⟩
end Go.Proofs.YtmejhedegmjboaaGreat.I
