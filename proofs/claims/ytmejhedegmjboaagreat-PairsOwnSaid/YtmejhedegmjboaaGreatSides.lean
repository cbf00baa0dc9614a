/- What spots.sides hands out: each node's place and side. Condition: the body may be, and can be read. -/
import Derived.Shelf.RegionOpen
import Derived.Test.YtmejhedegmjboaaGreatBelowS
import Derived.Test.YtmejhedegmjboaaGreatRange
namespace Go.Proofs.YtmejhedegmjboaaGreat
open Go.RowKit Go.Shelf
attribute [local go_sem] Oper.semAt_some
structure StepT (n₀:Nat)(A B:World):Prop where
 bel:Below n₀ A B
 keep: ∀(b:Nat) (o:Obj),A.heap[b]?=some o→(∀cs z,o≠ .cells cs 65 z)→B.heap[b]?=some o
theorem StepT.of_below {n₀:Nat}{A B:World}(h:Below A.heap.size A B)(hn:n₀≤A.heap.size):StepT n₀ A B:=
 ⟨h.mono hn,fun b _ hb _=>(h.block b (lt_blk hb)).trans hb⟩
theorem StepT.of_own {n₀ base n:Nat}{A B:World}{v:Value}{xs:List Value}(h:A.ownsRow base 65 1 v n xs)(hg:A.grownBy B v.ownBlock)(hn:n₀≤base)(hs:n₀≤A.heap.size):StepT n₀ A B:=by
 refine⟨(Below.refl n₀ A).grown hg hs fun j hj=>Nat.le_trans hn (h.lt j hj).1,fun b o hb ho=>(hg.block b (lt_blk hb) fun e=> ?_).trans hb⟩
 rcases h.2 with⟨rfl,_⟩|⟨g,cap,cur,rfl,_,hgb,_⟩
 ·cases e
 ·have e':b=g:=by simpa [Value.ownBlock] using e
  rw[e',hgb] at hb
  injection hb with hb
  exact ho _ _ hb.symm
theorem StepT.others {n₀:Nat}{A B:World}(h:StepT n₀ A B):KeepsOthers A B:=
 ⟨h.bel.size,fun k o hk ho=>h.keep k o hk fun cs z e=>by rw[e] at ho;cases ho⟩
structure KpT (n₀:Nat)(A B:World):Prop where
 bel:Below n₀ A B
 keep: ∀(b:Nat) (cs:Array Value) (t:TypeId) (z:Nat×Nat),A.heap[b]?=some (.cells cs t z)→t≠25→t≠67→B.heap[b]?=some (.cells cs t z)
theorem kpT_t {n₀:Nat}{A B C:World}(h:KpT n₀ A B)(k:KpT n₀ B C):KpT n₀ A C:=
 ⟨h.bel.trans k.bel,fun b cs t z hb h1 h2=>k.keep b cs t z (h.keep b cs t z hb h1 h2) h1 h2⟩
theorem kpT_b {n₀:Nat}{w:World}(hn:n₀≤w.heap.size)(W:World)(l:Nat)(o o':Obj)(hl:w.heap.size≤l)(h:W.heap[l]?=some o)(h1:o.isCells=false):KpT n₀ W (W.putObj l o'):=
 ⟨(Below.refl n₀ W).grown (grownBy_putObj' W l o') (by have:=lt_blk h;omega) (fun k e=>by cases e;omega),fun b cs t z hb _ _=>by
  have:b≠l:=by
   rintro rfl
   rw[hb] at h
   cases h
   cases h1
  exact(World.putObj_heap_other (by omega)).trans hb⟩
theorem own_kpT {n₀ base n:Nat}{A B:World}{v:Value}{xs:List Value}(h:A.ownsRow base 65 1 v n xs)(k:KpT n₀ A B):B.ownsRow base 65 1 v n xs:=by
 refine⟨h.1,?_⟩
 rcases h.2 with hn|⟨g,cap,cur,hv,hg,hgg,r⟩
 ·exact .inl hn
 ·exact .inr ⟨g,cap,cur,hv,hg,k.keep g _ _ _ hgg (by decide) (by decide),r⟩
def sideAt (l:List Nd)(k:Nat):Nat:=(sds l [0]).getD k 0
def sideArgs (l:List Nd)(x:Fin l.length):Array Value:= #[.int .i64 (x.val:Int),.int .u8 (sideAt l x.val:Int)]
theorem fin_take {n k:Nat}(h:k < n):(List.finRange n).take (k+1)=(List.finRange n).take k++ [⟨k,h⟩]:=by
 rw[List.take_succ_eq_append_getElem (by simpa using h)]
 simp
theorem sides_in (nn:Nat)(A:Option Addr)(m c:Nat)(w:World):
  CallsIn Fence.wide nn Tryz.prog 76 #[.slice A m c] w fun e w'=>e= .returned (.func (.func 123) #[] #[.pointer (some ⟨w.heap.size,0,none⟩)])∧w'=w.alloc (.cells #[.slice A m c] 47):=by
 refine callsIn_of_wp Tryz.func76 rfl trivial ?_ rfl
 simp only[Tryz.ntmps76,List.size_toArray,List.length_cons,List.length_nil,Nat.reduceAdd,Nat.reduceSub,Array.replicate_succ,Array.replicate_zero,List.push_toArray,List.append_toArray,List.nil_append,List.cons_append]
 gi_wp2
 go_ret
 exact⟨rfl,rfl⟩
theorem side_inf:(Tryz.prog.info? 65).map (fun i=>(i.zero,i.size,i.bytes))=some (some (.int .u8 0),1,1):=by kernel_rfl
def SdRel (l:List Nd)(B:Nat)(A:Option Addr)(m c:Nat)(J:List (Fin l.length)→World→Prop)(v3 v11:Value)(wr:World):Prop:=
 ∃(k:Nat) (st dst:List Nat) (A3:Option Addr) (N3 c3:Nat),v11= .int .i64 (k:Int)∧v3= .slice A3 N3 c3∧Hid (st.length=N3)∧k≤l.length∧wr.ownsRow B 65 1 (.slice A3 N3 c3) N3 (st.reverse.map sc)∧sds l [0]=(sds l [0]).take k++sds (l.drop k) st∧st.length≤1+8*k∧st.length=dst.length∧chk (l.drop k) dst=0∧
  Ns wr B A m c l∧B≤wr.heap.size∧J ((List.finRange l.length).take k) wr
theorem own_cut {w:World}{base n c g:Nat}{xs:List Value}{x:Value}{E:TypeId}(h:w.ownsRow base E 1 (.slice (some ⟨g,0,none⟩) (n+1) c) (n+1) (xs++ [x])):w.ownsRow base E 1 (.slice (some ⟨g,0,none⟩) n c) n xs:=by
 have hl:xs.length=n:=by
  have:=h.1
  rw[List.length_append,List.length_singleton] at this
  omega
 rcases h.2 with⟨hv,_⟩|⟨g',cap,cur,hv,hb,hg,hnc,hcm,hcs,htake⟩
 ·cases hv
 ·injection hv with h1 h2 h3
  injection h1 with h1
  injection h1 with h1
  subst h1
  subst h3
  refine⟨by rw[hl];omega,.inr ⟨g,c,cur,rfl,hb,hg,by omega,hcm,hcs,?_⟩⟩
  have:=congrArg (List.take n) htake
  rw[List.take_take,Nat.mul_one,Nat.min_eq_left (by omega),List.take_left' hl] at this
  rw[Nat.mul_one]
  exact this
theorem one_more {l:List Nd}{k:Nat}{st dst:List Nat}(hk:k < l.length)(hs:sds l [0]=(sds l [0]).take k++sds (l.drop k) st)(hd:st.length=dst.length)(hc:chk (l.drop k) dst=0):
  ∃s st' d dst',st=s::st'∧dst=d::dst'∧sideAt l k=s∧sds l [0]=(sds l [0]).take (k+1)++sds (l.drop (k+1)) (belowS l[k] s++st')∧0≤l[k].n∧l[k].n≤8∧(belowS l[k] s++st').length=(opens l[k] d dst').length∧chk (l.drop (k+1)) (opens l[k] d dst')=0∧(belowS l[k] s).length≤8:=by
 rw[List.drop_eq_getElem_cons hk] at hs hc
 cases dst with
 |nil=>simp[chk] at hc
 |cons d dst'=>
  cases st with
  |nil=>simp at hd
  |cons s st'=>
   rw[chk_one] at hc
   split at hc
   ·rename_i hm
    split at hc
    ·cases hc
    ·rename_i hno
     have h0:=Nd.may_kids hm
     have hbl:=below_len s hm
     simp only[sds] at hs
     have htl:((sds l [0]).take k).length=k:=by
      have h1:=congrArg List.length hs
      rw[List.length_append,List.length_cons] at h1
      rw[List.length_take] at h1 ⊢
      omega
     have hat:sideAt l k=s:=by
      unfold sideAt
      rw[hs,List.getD_eq_getElem?_getD,List.getElem?_append_right (by rw[htl];exact Nat.le_refl _),htl]
      simp
     refine⟨s,st',d,dst',rfl,rfl,hat,?_,h0,by omega,?_,hc,by omega⟩
     ·have e1:(sds l [0]).take (k+1)=(sds l [0]).take k++ [s]:=by
       conv=>lhs;rw[hs]
       rw[List.take_append,htl,List.take_of_length_le (by rw[htl];omega)]
       simp
      rw[e1,List.append_assoc]
      exact hs
     ·unfold opens
      rw[List.length_append,List.length_append,hbl,List.length_replicate]
      simp only[List.length_cons] at hd
      omega
   ·cases hc
set_option maxRecDepth 100000 in
set_option maxHeartbeats 2000000 in
theorem sides1_in (nn yl Bn n₀:Nat)(A:Option Addr)(m c:Nat)(l:List Nd)(hc:checkB l=0)(J:List (Fin l.length)→World→Prop)(hJ: ∀pre A B,J pre A→StepT n₀ A B→J pre B)
  (hY: ∀pre x W,J pre W→pre.length < (List.finRange l.length).length→YieldAt Fence.wide (nn - 1) Tryz.prog yl (sideArgs l x) W fun e W'=>e= .returned (.bool true)∧J (pre++ [x]) W'∧KpT n₀ W W')
  (W:World) (hcn:W.cell? ⟨Bn,0,none⟩=some (.slice A m c)) (hL:Ns W n₀ A m c l) (hn₀:n₀≤W.heap.size) (h0:J [] W):
  CallsIn Fence.wide nn Tryz.prog 123 #[.func (.yield yl) #[] #[],.pointer (some ⟨Bn,0,none⟩)] W fun e W'=>(∃v,e= .returned v)∧J (List.finRange l.length) W':=by
 obtain⟨i0,hi0,hz0,hz1,hz2⟩:=info_parts side_inf
 have HL:=Lib.hid hL.len
 have hl128:m≤128:=by rw[← HL.out];exact(check_len hc).2
 have HJ:=Lib.hid hJ
 have HY:=Lib.hid hY
 have HCH:=Lib.hid (check_chk hc).2.2
 have hown0:(W.alloc (.cells #[.int .u8 0] 65)).ownsRow n₀ 65 1 (.slice (some ⟨W.heap.size,0,none⟩) 1 1) 1 ([0].reverse.map sc):=
  ⟨rfl,.inr ⟨W.heap.size,1,#[.int .u8 0],rfl,hn₀,heap_alloc_new W _,Nat.le_refl _,by unfold maxLen;omega,rfl,rfl⟩⟩
 have hcn1:(W.alloc (.cells #[.int .u8 0] 65)).cell? ⟨Bn,0,none⟩=some (.slice A m c):=(World.cell?_alloc_lt W _ ⟨Bn,0,none⟩ (World.block_lt_of_cell? W ⟨Bn,0,none⟩ hcn)).trans hcn
 have hal:Below W.heap.size W (W.alloc (.cells #[.int .u8 0] 65)):=(Below.refl _ _).alloc (Nat.le_refl _) _
 have hJ1:=hJ [] W _ h0 (StepT.of_below hal hn₀)
 have hL1:=hL.below (hal.mono hn₀)
 have hsz1:n₀≤(W.alloc (.cells #[.int .u8 0] 65)).heap.size:=Nat.le_trans hn₀ hal.size
 have H0:=Lib.hid (show SdRel l n₀ A m c J (.slice (some ⟨W.heap.size,0,none⟩) 1 1) (.int .i64 0) (W.alloc (.cells #[.int .u8 0] 65)) from
  ⟨0,[0],[1],_,_,_,rfl,rfl,rfl,Nat.zero_le _,hown0,by simp,by simp,rfl,by simpa using HCH.out,hL1,hsz1,by simpa using hJ1⟩)
 clear hJ hY hown0 hal hJ1 hL1 hsz1 hL h0 hn₀ HCH
 refine callsIn_of_wp Tryz.func123 rfl trivial ?_ rfl
 simp only[Tryz.ntmps123,List.size_toArray,List.length_cons,List.length_nil,Nat.reduceAdd,Nat.reduceSub,Array.replicate_succ,Array.replicate_zero,List.push_toArray,List.append_toArray,List.nil_append,List.cons_append]
 gi_wp2
 gi_loopw [3,11] (fun v3 v11 wr=>SdRel l n₀ A m c J v3 v11 wr) (fun _ v11 _=>m - (intOf v11).toNat)
 case atStart=>exact H0.out
 case round=>
  clear H0
  obtain⟨k,st,dst,A3,N3,c3,rfl,rfl,HN,hk,hown,hsd,hst,hdl,hch,hr,hB,hJs⟩:=hrel
  by_cases hlt:k < m
  ·have hk':k < l.length:=by rw[HL.out];exact hlt
   obtain⟨s,st',d,dst',rfl,rfl,hat,hsd2,hx0,hx8,hdl2,hch2,hb8⟩:=one_more hk' hsd hdl hch
   obtain⟨b,o,rfl,hbb,e0,e1,e2,e3,e4,e5,e6,e7,e8,e9⟩:=hr.node hk'
   have HS:=Lib.hid (fin_take hk')
   have HAT:=Lib.hid hat
   have HSD:=Lib.hid hsd2
   have HCH2:=Lib.hid hch2
   have HDL2:=Lib.hid hdl2
   have HB8:=Lib.hid hb8
   clear hsd hdl hch hsd2 hch2 hdl2 hat hb8 hcn hcn1
   obtain⟨N,rfl⟩: ∃N,N3=N+1:=⟨st'.length,HN.out.symm⟩
   replace HN:Hid (st'.length=N):=Lib.hid (by have:=HN.out;rw[List.length_cons] at this;omega)
   rw[List.length_cons,HN.out] at hst
   rw[List.reverse_cons,List.map_append] at hown
   obtain⟨q,rfl⟩: ∃q,A3=some ⟨q,0,none⟩:=by
    rcases hown.2 with⟨_,h⟩|⟨g,cap,cur,hv,_⟩
    ·omega
    ·injection hv with h1 _ _
     exact⟨g,h1⟩
   have hncap:N+1≤c3∧c3≤maxLen∧q < wr.heap.size:=by
    rcases hown.2 with⟨h,_⟩|⟨g,cap,cur,hv,_,hg,hnc,hcm,_⟩
    ·cases h
    ·injection hv with h1 h2 h3
     injection h1 with h1
     injection h1 with h1
     subst h1
     subst h3
     exact⟨hnc,hcm,lt_blk hg⟩
   have hlast:wr.cell? ⟨q,N,none⟩=some (.int .u8 (s:Int)):=by
    have:=hown.cells (g:=q) rfl N (sc s) (by rw[List.getElem?_append_right (by simp[HN.out])];simp[HN.out])
    rwa [Addr.add_lit,Nat.zero_add] at this
   have hcq:c3≤9223372036854775807:=by have:=hncap.2.1;unfold maxLen at this;omega
   have hs: ∀W,(Instr.slice 195 (.slice (some ⟨q,0,none⟩) (N+1) c3) none (some (.int .i64 (N:Int))) none).run Tryz.prog W= .ok (.slice (some ⟨q,0,none⟩) N c3) W:=by
    intro W
    rw[run_slice_h W 195 _ _ _ (by rw[show Tryz.prog.elem 195=65 by simp[Program.elem,Tryz.underlying195]];exact Tryz.underlying195) .i64 _ (by omega) (by omega),show Tryz.prog.elem 195=65 by simp[Program.elem,Tryz.underlying195],int_sizeS]
    simp[Result.andThen,sliced,Addr.add_lit]
   have hcut:=own_cut hown
   have HB:Hid (∀W,Calls Tryz.prog 124 #[ndv l[k],.int .u8 (s:Int)] W fun e w'=> ∃A n c,e= .returned (.slice A n c)∧Rd sc w' w'.heap.size A n c (belowS l[k] s).reverse∧Below W.heap.size W w'):=Lib.hid fun W=>below_any l[k] s W hx0 hx8
   have HNS:=Lib.hid hr
   unfold ndv at HB
   generalize l[k]=x at*
   obtain⟨xk,xm,xs,xn,xlv,xln,xpv,xpn,xev,xen⟩:=x
   simp only at e0 e1 e2 e3 e4 e5 e6 e7 e8 e9 HB
   obtain⟨xcs,hxcs⟩: ∃xcs:Array Value,xcs= #[.int .u8 xk,.int .i64 xm,.string (str xs),.int .i64 xn,.bool xlv,.int .u64 xln,.bool xpv,.int .u64 xpn,.bool xev,.int .u64 xen]:=⟨_,rfl⟩
   have hal:Below wr.heap.size wr (wr.alloc (.cells xcs 116)):=(Below.refl _ _).alloc (Nat.le_refl _) _
   have hlast':(wr.alloc (.cells xcs 116)).cell? ⟨q,N,none⟩=some (.int .u8 (s:Int)):=(hal.cell (p:=⟨q,N,none⟩) hncap.2.2).trans hlast
   have hJa:=HJ.out _ _ _ hJs (StepT.of_below hal hB)
   have hblk:=heap_alloc_new wr (.cells xcs 116)
   have hcuta:=hcut.alloc (.cells xcs 116)
   obtain⟨fn,tmps,assign,body,hy,hR⟩:=HY.out _ ⟨k,hk'⟩ _ hJa (by rw[List.length_take,List.length_finRange];omega)
   rw[show sideArgs l ⟨k,hk'⟩= #[.int .i64 (k:Int),.int .u8 (s:Int)] by show(#[Value.int .i64 (k:Int),Value.int .u8 (sideAt l k:Int)]:Array Value)=_;rw[HAT.out]] at hy
   rw[← HS.out] at hR
   have hR':=hR.mono (R':=fun e W'=>e= .returned (.bool true)∧Hid (J ((List.finRange l.length).take (k+1)) W'∧KpT n₀ (wr.alloc (.cells xcs 116)) W')) (by
    rintro e W' ⟨rfl,h1,h2⟩
    exact⟨rfl,h1,h2⟩)
   have HBA:=Lib.hid (Nat.le_trans hB hal.size)
   have hmx:Tryz.prog.follows .mixedOrders=true:=by kernel_rfl
   clear hR hJs hJa hown hcut hlast hx0 hx8 hr
   subst hxcs
   have HBLK:=Lib.hid hblk
   have HCUT:=Lib.hid hcuta
   have HAL:=Lib.hid hal
   clear hblk hcuta hal
   gi_wp2
   refine⟨fun e=>(by cases e),hR'.mono ?_⟩
   rintro e W3 ⟨rfl,HJ3⟩
   clear hy hR' hlast'
   have hblk3:=HJ3.out.2.keep _ _ 116 (0,0) HBLK.out (by decide) (by decide)
   have hown3:=own_kpT HCUT.out HJ3.out.2
   have hr3:=(HNS.out.below (HAL.out.mono hB)).below HJ3.out.2.bel
   have hsz3:n₀≤W3.heap.size:=Nat.le_trans HBA.out HJ3.out.2.bel.size
   have HJK:=Lib.hid HJ3.out.1
   clear HJ3 HBLK HCUT HNS HAL e0 e1 e2 e3 e4 e5 e6 e7 e8 e9
   have HO3:=Lib.hid hown3
   have HR3:=Lib.hid hr3
   have HK3:=Lib.hid hblk3
   clear hown3 hr3 hblk3
   gi_wp2
   refine wpIn_region_ord (open_wide _) [0,1,2,3,4,5,6,7] [5,6] 8 (fun w'=>w'.heap[wr.heap.size]?=some (.cells #[.int .u8 xk,.int .i64 xm,.string (str xs),.int .i64 xn,.bool xlv,.int .u64 xln,.bool xpv,.int .u64 xpn,.bool xev,.int .u64 xen] 116 (0,0))) hmx (by kernel_rfl) (by kernel_rfl) (by kernel_rfl) (by kernel_rfl) HK3.out ?_
   simp only[steps,List.getElem?_cons_zero,List.getElem?_cons_succ]
   repeat(first
    |(refine ord_yes (v:= ?_) rfl rfl ?_ ?_;rotate_left;(focus(rintro w' hS;have s0:=(cell_blk (i:=0) hS).trans rfl;have s1:=(cell_blk (i:=1) hS).trans rfl;have s2:=(cell_blk (i:=2) hS).trans rfl;have s3:=(cell_blk (i:=3) hS).trans rfl;have s4:=(cell_blk (i:=4) hS).trans rfl;have s5:=(cell_blk (i:=5) hS).trans rfl;have s6:=(cell_blk (i:=6) hS).trans rfl;have s7:=(cell_blk (i:=7) hS).trans rfl;have s8:=(cell_blk (i:=8) hS).trans rfl;have s9:=(cell_blk (i:=9) hS).trans rfl;clear hS;go_simp;try with_reducible rfl));simp only[Act.put,List.setIfInBounds_toArray,List.set_cons_zero,List.set_cons_succ]))
   refine ord_hard rfl rfl (fun K hK=> ?_)
   go_simp
   refine(HB.out _).mono ?_
   rintro e w4 ⟨A4,n4,c4,rfl,hrd4,hb4⟩
   have hb4':Below W3.heap.size W3 w4:=⟨hb4.os,hb4.tape,hb4.output,hb4.size,hb4.block⟩
   have hblk4:=(hb4'.block wr.heap.size (lt_blk HK3.out)).trans HK3.out
   have hown4:=own_keep HO3.out hb4'
   have hJ4:=HJ.out _ _ _ HJK.out (StepT.of_below hb4' hsz3)
   have hr4:=HR3.out.below (hb4'.mono hsz3)
   have hsz4:n₀≤w4.heap.size:=Nat.le_trans hsz3 hb4'.size
   refine hK.out _ _ (fun _=>hblk4) ?_
   clear hK K
   try simp only[Act.put,List.setIfInBounds_toArray,List.set_cons_zero,List.set_cons_succ]
   refine ord_hard rfl rfl (fun K hK=> ?_)
   have h4l:(belowS ⟨xk,xm,xs,xn,xlv,xln,xpv,xpn,xev,xen⟩ s).reverse.length≤8:=by rw[List.length_reverse];exact HB8.out
   have h4n:(belowS ⟨xk,xm,xs,xn,xlv,xln,xpv,xpn,xev,xen⟩ s).length=n4:=by have:=hrd4.len;rwa [List.length_reverse] at this
   rw[hrd4.len] at h4l
   refine wp_append_rd _ (.tmp 30) (.tmp 33) 195 rfl n₀ 65 i0 (.int .u8 0) 1 Tryz.underlying195 hi0 hz0 hz1 hz2 rfl sc_one (.slice (some ⟨q,0,none⟩) N c3) N st'.reverse rfl hown4 w4.heap.size A4 n4 c4 _ rfl hrd4 (by unfold maxLen;omega) (by omega) hsz4 ?_
   intro A5 n5 c5 w5 hn5 hown5 hg5 _
   have hst5:StepT n₀ w4 w5:=StepT.of_own hown4 hg5 (Nat.le_refl _) hsz4
   have hblk5:=hst5.keep _ _ hblk4 (fun cs z e=>by cases e)
   refine hK.out _ _ (fun _=>hblk5) ?_
   clear hK K hblk4 hblk5
   try simp only[Act.put,List.setIfInBounds_toArray,List.set_cons_zero,List.set_cons_succ]
   refine ord_yes rfl rfl (fun w' _=>by go_simp;try with_reducible rfl) ?_
   try simp only[Act.put,List.setIfInBounds_toArray,List.set_cons_zero,List.set_cons_succ]
   refine ord_endT ?_
   have hJ5:=HJ.out _ _ _ hJ4 hst5
   have hr5:=hr4.below hst5.bel
   have hsz5:n₀≤w5.heap.size:=Nat.le_trans hsz4 hst5.bel.size
   rw[← List.reverse_append] at hown5
   have HREL:=Lib.hid (show SdRel l n₀ (some ⟨b,o,none⟩) m c J (.slice A5 n5 c5) (.int .i64 ((k:Int)+1)) w5 from
    ⟨k+1,_,_,A5,n5,c5,by go_num,rfl,Lib.hid (by rw[List.length_append,HN.out,h4n,hn5.out,Nat.add_comm]),by omega,hown5,HSD.out,by rw[List.length_append,h4n,HN.out];omega,HDL2.out,HCH2.out,hr5,hsz5,hJ5⟩)
   clear hJ5 hr5 hsz5 hown5 hst5 hJ4 hr4 hsz4 hrd4 hb4 hb4' hown4 HO3 HR3 HK3 HJK HSD HCH2 HDL2 HB hg5 hn5
   gi_wp2
   go_roundw
   case rel=>exact HREL.out
   case measure=>simp[intOf];omega
  ·obtain rfl:k=m:=by have:=HL.out;omega
   have hfin:(List.finRange l.length).take k=List.finRange l.length:=List.take_of_length_le (by simp[HL.out])
   rw[hfin] at hJs
   clear hsd hdl hch
   gi_wp2
   go_end0
   exact⟨⟨_,rfl⟩,hJs⟩
theorem sides_comes (nn Bn n₀:Nat)(A:Option Addr)(m c:Nat)(l:List Nd)(hc:checkB l=0)(w:World)(hcn:w.cell? ⟨Bn,0,none⟩=some (.slice A m c))(hL:Ns w n₀ A m c l)(hn₀:n₀≤w.heap.size):
  Comes Tryz.prog nn 123 #[.pointer (some ⟨Bn,0,none⟩)] (sideArgs l) (StepT n₀) (KpT n₀) (List.finRange l.length) w:=fun yl J W hW hJ hY h0=>
 sides1_in nn yl Bn n₀ A m c l hc J hJ hY W ((hW.cell (p:=⟨Bn,0,none⟩) (World.block_lt_of_cell? w ⟨Bn,0,none⟩ hcn)).trans hcn) (hL.below (hW.mono hn₀)) (Nat.le_trans hn₀ hW.size) h0
end Go.Proofs.YtmejhedegmjboaaGreat
