/- What the closure of sense tells of two spots. Condition: they can be read. -/
/- What ends makes of spots: their least, or greatest, values. Condition: they can be read. -/
import Derived.Test.YtmejhedegmjboaaGreatBel
import Derived.Test.YtmejhedegmjboaaGreatSides
namespace Go.Proofs.YtmejhedegmjboaaGreat
open Go.RowKit
structure Ix (w:World)(bl bv:Nat)(A:Option Addr)(n c:Nat)(v:Value)(A1:Option Addr)(n1 c1:Nat)(A2:Option Addr)(n2 c2:Nat)(A3:Option Addr)(n3 c3:Nat):Prop where
 c0:w.cell? ⟨bl,0,none⟩=some (.slice A n c)
 s0:w.cell? ⟨bv,0,none⟩=some v
 s1:w.cell? ⟨bv,1,none⟩=some (.slice A1 n1 c1)
 s2:w.cell? ⟨bv,2,none⟩=some (.slice A2 n2 c2)
 s3:w.cell? ⟨bv,3,none⟩=some (.slice A3 n3 c3)
theorem Ix.keep {w W:World}{bl bv:Nat}{A:Option Addr}{n c:Nat}{v:Value}{A1:Option Addr}{n1 c1:Nat}{A2:Option Addr}{n2 c2:Nat}{A3:Option Addr}{n3 c3:Nat}(h:Ix w bl bv A n c v A1 n1 c1 A2 n2 c2 A3 n3 c3)(hb:Below w.heap.size w W):Ix W bl bv A n c v A1 n1 c1 A2 n2 c2 A3 n3 c3:=
 ⟨cell_old h.c0 hb,cell_old h.s0 hb,cell_old h.s1 hb,cell_old h.s2 hb,cell_old h.s3 hb⟩
structure Iy (w:World)(b o i j:Nat)(si sj:Nat)(av:Bool)(an:Nat)(bv':Bool)(bn:Nat):Prop where
 i2:w.cell? ⟨b,o+i*5+2,none⟩=some (.int .u8 (si:Int))
 i3:w.cell? ⟨b,o+i*5+3,none⟩=some (.bool av)
 i4:w.cell? ⟨b,o+i*5+4,none⟩=some (.int .u64 (an:Int))
 j2:w.cell? ⟨b,o+j*5+2,none⟩=some (.int .u8 (sj:Int))
 j3:w.cell? ⟨b,o+j*5+3,none⟩=some (.bool bv')
 j4:w.cell? ⟨b,o+j*5+4,none⟩=some (.int .u64 (bn:Int))
theorem Iy.keep {w W:World}{b o i j si sj:Nat}{av:Bool}{an:Nat}{bv':Bool}{bn:Nat}(h:Iy w b o i j si sj av an bv' bn)(hb:Below w.heap.size w W):Iy W b o i j si sj av an bv' bn:=
 ⟨cell_old h.i2 hb,cell_old h.i3 hb,cell_old h.i4 hb,cell_old h.j2 hb,cell_old h.j3 hb,cell_old h.j4 hb⟩
theorem z_nat {z:Int}(h:U64 z):((z.toNat:Nat):Int)=z∧z.toNat < 18446744073709551616:=by
 obtain⟨h0,h1⟩:=h
 omega
set_option maxRecDepth 100000 in
set_option maxHeartbeats 4000000 in
theorem is_any (i j bl bv:Nat)(l:List Sp)(A:Option Addr)(n c:Nat)(S:Bo.Sr)(q:Nat)(lo hi:List Nat)(rc:Nat→Nat→Bool)(v:Value)(A1:Option Addr)(n1 c1:Nat)(A2:Option Addr)(n2 c2:Nat)(A3:Option Addr)(n3 c3:Nat)(w:World)(hx:Ix w bl bv A n c v A1 n1 c1 A2 n2 c2 A3 n3 c3)(h:SlvAt w S q lo hi rc v A1 n1 c1 A2 n2 c2 A3 n3 c3)(hr:Rs spc 5 w w.heap.size A n c l)(hz: ∀p∈l,U64 p.z)(hm: ∀p∈l,okT q p.v p.z.toNat)(hil:i < l.length)(hjl:j < l.length)(x:Bool)(he:belS S lo hi rc l[i] l[j]=x):
  Calls Tryz.prog 78 #[.int .i64 (i:Int),.int .i64 (j:Int),.pointer (some ⟨bl,0,none⟩),.pointer (some ⟨bv,0,none⟩)] w fun e w'=>e= .returned (.bool x)∧Below w.heap.size w w':=by
 have hlen:=hr.len
 have hin:(i:Int) < (n:Int):=by omega
 have hjn:(j:Int) < (n:Int):=by omega
 obtain⟨b,o,rfl,hbb,-,-,e2,e3,e4⟩:=spot_at hr hil
 obtain⟨b',o',hA,-,-,-,f2,f3,f4⟩:=spot_at hr hjl
 injection hA with hA
 injection hA with hb' ho'
 subst hb' ho'
 obtain⟨za,fa⟩:=z_nat (hz _ (List.getElem_mem hil))
 obtain⟨zb,fb⟩:=z_nat (hz _ (List.getElem_mem hjl))
 rw[← za] at e4
 rw[← zb] at f4
 have ha:=hm _ (List.getElem_mem hil)
 have hb:=hm _ (List.getElem_mem hjl)
 obtain⟨y,hy⟩: ∃y,alwT S lo hi rc l[i].v l[i].z.toNat l[j].v l[j].z.toNat=y:=⟨_,rfl⟩
 have HC:Hid (∀W,Below w.heap.size w W→Calls Tryz.prog 79 #[slvV v A1 n1 c1 A2 n2 c2 A3 n3 c3,Bo.tmv l[i].v l[i].z.toNat,Bo.tmv l[j].v l[j].z.toNat] W fun e w'=>e= .returned (.bool y)∧Below W.heap.size W w'):=
  Lib.hid fun W hW=>slvBelow_any l[i].v l[i].z.toNat l[j].v l[j].z.toNat S q lo hi rc v A1 n1 c1 A2 n2 c2 A3 n3 c3 W (h.keep hW) ha hb fa fb y hy
 have he':(!decide (l[i].s=0) && (!decide (l[j].s=1) && y))=x:=by rw[← hy];exact he
 have hs:=h.s
 clear he hy ha hb za zb fa fb hm hz hlen hbb h hr
 generalize l[i].s=si at*
 generalize l[j].s=sj at*
 generalize l[i].v=av at*
 generalize l[j].v=bv' at*
 generalize l[i].z.toNat=an at*
 generalize l[j].z.toNat=bn at*
 have hc:Iy w b o i j si sj av an bv' bn:=⟨e2,e3,e4,f2,f3,f4⟩
 clear e2 e3 e4 f2 f3 f4
 unfold slvV Bo.tmv at HC
 have HE:=Lib.hid he'
 clear he' hil hjl
 have q0:((si:Int) !=0)= !decide (si=0):=by by_cases g:si=0 <;> simp[g]
 have q1:((sj:Int) !=1)= !decide (sj=1):=by
  by_cases g:sj=1
  ·subst g;rfl
  ·have: ¬(sj:Int)=1:=by omega
   simp[g,this]
 rcases hs with⟨p,rfl,-⟩|⟨p,rfl,-⟩
 all_goals(
  go_enter Tryz.func78,Tryz.ntmps78
  go_wp2_with fail
  rw[← q0, ← q1] at HE
  by_cases g0:si=0
  ·have q2:((si:Int) !=0)=false:=by rw[q0];simp[g0]
   rw[q2] at HE
   clear q0 q1 g0 HC
   refine wp_region_ord [0,1,2,3,4,5,6,7,8,9,10,11,12,13,14,15,16,17,18,19,20,21,22,23,24,25,26,27,28] [26] 29 (fun w'=>Ix w' bl bv (some ⟨b,o,none⟩) n c _ A1 n1 c1 A2 n2 c2 A3 n3 c3∧Iy w' b o i j si sj av an bv' bn) (by kernel_rfl) (by kernel_rfl) (by kernel_rfl) (by kernel_rfl) (fun _ _ _ _ _ h=>h) ⟨hx.keep (Below.refl _ w).drew,hc.keep (Below.refl _ w).drew⟩ ?_
   simp only[steps,List.getElem?_cons_zero,List.getElem?_cons_succ]
   repeat(first
    |(refine ord_no rfl ?_;simp only[Act.put,List.setIfInBounds_toArray,List.set_cons_zero,List.set_cons_succ])
    |(refine ord_yes (v:= ?_) rfl rfl ?_ ?_;rotate_left;(focus(rintro w' ⟨⟨x0,x1,x2,x3,x4⟩,x5,x6,x7,x8,x9,x10⟩;go_simp;try with_reducible rfl));simp only[Act.put,List.setIfInBounds_toArray,List.set_cons_zero,List.set_cons_succ]))
   refine ord_end ?_
   go_wp2_with fail
   go_ret
   exact⟨by rw[← HE.out];rfl,(Below.refl _ w).drew⟩
  ·have q2:((si:Int) !=0)=true:=by rw[q0];simp[g0]
   rw[q2] at HE
   by_cases g1:sj=1
   ·have q3:((sj:Int) !=1)=false:=by rw[q1];simp[g1]
    rw[q3] at HE
    clear q0 q1 g0 g1 HC
    refine wp_region_ord [0,1,2,3,4,5,6,7,8,9,10,11,12,13,14,15,16,17,18,19,20,21,22,23,24,25,26,27,28] [26] 29 (fun w'=>Ix w' bl bv (some ⟨b,o,none⟩) n c _ A1 n1 c1 A2 n2 c2 A3 n3 c3∧Iy w' b o i j si sj av an bv' bn) (by kernel_rfl) (by kernel_rfl) (by kernel_rfl) (by kernel_rfl) (fun _ _ _ _ _ h=>h) ⟨hx.keep (Below.refl _ w).drew,hc.keep (Below.refl _ w).drew⟩ ?_
    simp only[steps,List.getElem?_cons_zero,List.getElem?_cons_succ]
    repeat(first
     |(refine ord_no rfl ?_;simp only[Act.put,List.setIfInBounds_toArray,List.set_cons_zero,List.set_cons_succ])
     |(refine ord_yes (v:= ?_) rfl rfl ?_ ?_;rotate_left;(focus(rintro w' ⟨⟨x0,x1,x2,x3,x4⟩,x5,x6,x7,x8,x9,x10⟩;go_simp;try with_reducible rfl));simp only[Act.put,List.setIfInBounds_toArray,List.set_cons_zero,List.set_cons_succ]))
    refine ord_end ?_
    go_wp2_with fail
    go_ret
    exact⟨by rw[← HE.out];rfl,(Below.refl _ w).drew⟩
   ·have q3:((sj:Int) !=1)=true:=by rw[q1];simp[g1]
    rw[q3] at HE
    clear q0 q1 g0 g1
    refine wp_region_ord [0,1,2,3,4,5,6,7,8,9,10,11,12,13,14,15,16,17,18,19,20,21,22,23,24,25,26,27,28] [26] 29 (fun w'=>Ix w' bl bv (some ⟨b,o,none⟩) n c _ A1 n1 c1 A2 n2 c2 A3 n3 c3∧Iy w' b o i j si sj av an bv' bn) (by kernel_rfl) (by kernel_rfl) (by kernel_rfl) (by kernel_rfl) (fun _ _ _ _ _ h=>h) ⟨hx.keep (Below.refl _ w).drew,hc.keep (Below.refl _ w).drew⟩ ?_
    simp only[steps,List.getElem?_cons_zero,List.getElem?_cons_succ]
    repeat(first
     |(refine ord_no rfl ?_;simp only[Act.put,List.setIfInBounds_toArray,List.set_cons_zero,List.set_cons_succ])
     |(refine ord_yes (v:= ?_) rfl rfl ?_ ?_;rotate_left;(focus(rintro w' ⟨⟨x0,x1,x2,x3,x4⟩,x5,x6,x7,x8,x9,x10⟩;go_simp;try with_reducible rfl));simp only[Act.put,List.setIfInBounds_toArray,List.set_cons_zero,List.set_cons_succ]))
    refine ord_hard rfl rfl (fun K hK=> ?_)
    go_simp
    refine(HC.out _ (Below.refl _ w).drew).mono ?_
    rintro e w1 ⟨rfl,hv⟩
    have hv2:=(Below.refl w.heap.size w).drew.trans (hv.mono (Below.refl w.heap.size w).drew.size)
    replace hx:=hx.keep hv2
    replace hc:=hc.keep hv2
    refine hK.out _ _ (fun _=>⟨hx,hc⟩) ?_
    clear hK K
    try simp only[Act.put,List.setIfInBounds_toArray,List.set_cons_zero,List.set_cons_succ]
    repeat(first
     |(refine ord_no rfl ?_;simp only[Act.put,List.setIfInBounds_toArray,List.set_cons_zero,List.set_cons_succ])
     |(refine ord_yes (v:= ?_) rfl rfl ?_ ?_;rotate_left;(focus(rintro w' ⟨⟨x0,x1,x2,x3,x4⟩,x5,x6,x7,x8,x9,x10⟩;go_simp;try with_reducible rfl));simp only[Act.put,List.setIfInBounds_toArray,List.set_cons_zero,List.set_cons_succ]))
    refine ord_end ?_
    go_wp2_with fail
    go_ret
    exact⟨by rw[← HE.out];rfl,hv2⟩)
def EnRel' (f:Sp→Nat)(l:List Sp)(w:World)(v17:Value)(wr:World):Prop:= ∃i:Nat,v17= .int .i64 (i:Int)∧i≤l.length∧Bo.NmAt wr w.heap.size (mkd f 0 l i)∧Below w.heap.size w wr
set_option maxRecDepth 100000 in
set_option maxHeartbeats 4000000 in
theorem lows_any (l:List Sp)(A:Option Addr)(n c:Nat)(S:Bo.Sr)(q:Nat)(lo hi:List Nat)(rc:Nat→Nat→Bool)(v:Value)(A1:Option Addr)(n1 c1:Nat)(A2:Option Addr)(n2 c2:Nat)(A3:Option Addr)(n3 c3:Nat)(w:World)(hs:SlvAt w S q lo hi rc v A1 n1 c1 A2 n2 c2 A3 n3 c3)(h:Rs spc 5 w w.heap.size A n c l)(hz: ∀p∈l,U64 p.z)(hm: ∀p∈l,okT q p.v p.z.toNat)(hn:n≤256):
  Calls Tryz.prog 80 #[.slice A n c,.int .u8 1,.func (.method "Bottom") #[v] #[],.func (.func 81) #[slvV v A1 n1 c1 A2 n2 c2 A3 n3 c3] #[]] w fun e w'=> ∃g,e= .returned (.slice (some ⟨g,0,none⟩) n n)∧w.heap.size≤g∧Bo.NmAt w' g (l.map (lowS S lo))∧Below w.heap.size w w':=by
 have hlen:=h.len
 have hcap:=h.cap
 have htop:=h.top
 unfold maxLen at htop
 have hmk: ∀W,(Instr.makeSlice 22 (.int .i64 (n:Int)) (.int .i64 (n:Int))).run Tryz.prog W= .ok (.slice (some ⟨W.heap.size,0,none⟩) n n) (W.alloc (.cells (La.cl (mkd (lowS S lo) 0 l 0)) 60)):=fun W=>by
  rw[La.make_nm n (by omega) W,mkd,hlen]
  rfl
 have hg0:Bo.NmAt (w.alloc (.cells (La.cl (mkd (lowS S lo) 0 l 0)) 60)) w.heap.size (mkd (lowS S lo) 0 l 0):=heap_alloc_new w _
 have hb0:Below w.heap.size w (w.alloc (.cells (La.cl (mkd (lowS S lo) 0 l 0)) 60)):=(Below.refl _ _).alloc (Nat.le_refl _) _
 have HR:=Lib.hid h
 have HL:=Lib.hid hlen
 have HG:=Lib.hid hg0
 have HZ:=Lib.hid hz
 have HM:=Lib.hid hm
 have hsv:=hs.s
 have HLEAST:Hid (∀(av:Bool) (an:Nat),okT q av an→ ∀x,Bo.vl lo av an=x→ ∀W,Below w.heap.size w W→Calls Tryz.prog 81 #[slvV v A1 n1 c1 A2 n2 c2 A3 n3 c3,Bo.tmv av an] W fun e w'=>e= .returned (.int .u64 (x:Int))∧Below W.heap.size W w'):=
  Lib.hid fun av an ok x hx W hW=>least_any av an S q lo hi rc v A1 n1 c1 A2 n2 c2 A3 n3 c3 W (hs.keep hW) ok x hx
 generalize La.cl (mkd (lowS S lo) 0 l 0)=cs at*
 clear h hg0 hlen hz hm hs
 unfold slvV Bo.tmv at HLEAST
 unfold slvV
 rcases hsv with⟨pa,rfl,hA⟩|⟨pa,rfl,hA⟩
 all_goals(
  have HA:=Lib.hid hA
  clear hA
  go_enter Tryz.func80,Tryz.ntmps80
  go_wp2
  clear hmk
  go_loopw [17] (fun v17 wr=>EnRel' (lowS S lo) l w v17 wr) (fun v17 _=>n - (intOf v17).toNat)
  case atStart=>exact⟨0,rfl,by omega,HG.out,hb0⟩
  case round=>
   clear HG hb0
   obtain⟨i,rfl,hik,hg,hb⟩:=hrel
   by_cases hlt:i < n
   ·have hi':i < l.length:=by rw[HL.out];exact hlt
    have hr:=(HR.out.at_size (Nat.le_refl _) hb)
    obtain⟨b,o,rfl,hbb,e0,e1,e2,e3,e4⟩:=spot_at hr hi'
    have hu:=HZ.out _ (List.getElem_mem hi')
    have hk:=HM.out _ (List.getElem_mem hi')
    have hgl:w.heap.size < wr.heap.size:=lt_blk hg
    have hit:i < (mkd (lowS S lo) 0 l i).length:=by rw[mkd_len hik];exact hi'
    have HNX:=Lib.hid (mkd_next (f:=lowS S lo) (z:=0) hi')
    have HLT:=Lib.hid hlt
    have hdk:decide ((i:Int) < (n:Int))=true:=decide_eq_true (by omega)
    generalize mkd (lowS S lo) 0 l i=L at*
    generalize l[i]=x at*
    obtain⟨xn,xp,xs,xv,xz⟩:=x
    simp only at e0 e1 e2 e3 e4 hu hk
    obtain⟨z,rfl,hzz⟩:=hu.nat
    obtain⟨r,hr0⟩: ∃r,Bo.vl lo xv z=r:=⟨_,rfl⟩
    have hfx:lowS S lo ⟨xn,xp,xs,xv,(z:Int)⟩=if xs=1 then S.bot else r:=by
     unfold lowS tmL
     subst hr0
     rfl
    rw[hfx] at HNX
    rw[Int.toNat_natCast] at hk
    have HC:=Lib.hid (HLEAST.out xv z hk r hr0)
    clear hk hr0 hfx
    have hal:Below wr.heap.size wr (wr.alloc (.cells #[.int .i64 (xn:Int),.int .u8 (xp:Int),.int .u8 (xs:Int),.bool xv,.int .u64 (z:Int)] 67)):=(Below.refl _ _).alloc (Nat.le_refl _) _
    have HB:=Lib.hid (hb.trans (hal.mono hb.size))
    have HG:=Lib.hid (Bo.NmAt.keep hg hal)
    have HIT:=Lib.hid hit
    clear hr hbb hg hit hi' hik hb hlt hal hu hzz hgl
    by_cases hxs:xs=1
    ·subst hxs
     rw[if_pos rfl] at HNX
     clear HC
     go_wp2_with fail
     refine(HA.out.bot _ HB.out).mono ?_
     rintro e w3 ⟨rfl,hb3⟩
     clear e0 e1 e2 e3 e4 hdk
     have hg3:=Bo.NmAt.keep HG.out hb3
     have HB3:=Lib.hid (HB.out.trans (hb3.mono HB.out.size))
     have hit:=HIT.out
     have hgl3:w.heap.size < w3.heap.size:=lt_blk hg3
     have d0:=(cell_blk (i:=i) hg3).trans (La.cl_at hit)
     have f0:w3.frozen? ⟨w.heap.size,i,none⟩=false:=frozen_blk hg3
     have hst:=hg3.set i S.bot
     rw[HNX.out] at hst
     have HST:Hid (Bo.NmAt (w3.setCell ⟨w.heap.size,i,none⟩ (.int .u64 (S.bot:Int))) w.heap.size (mkd (lowS S lo) 0 l (i+1))∧Below w.heap.size w (w3.setCell ⟨w.heap.size,i,none⟩ (.int .u64 (S.bot:Int)))):=Lib.hid ⟨hst,HB3.out.setCell (p:=⟨w.heap.size,i,none⟩) (Nat.le_refl _) _⟩
     generalize L[i]=y at*
     clear hst hg3 hit hb3 HB HG
     go_wp2_with fail
     go_roundw
     case rel=>exact⟨i+1,by go_num,by have:=HLT.out;have:=HL.out;omega,HST.out.1,HST.out.2⟩
     case measure=>
      have:=HLT.out
      simp[intOf]
      omega
    ·have hne:((xs:Int)==1)=false:=by
      rw[beq_eq_false_iff_ne]
      omega
     rw[if_neg hxs] at HNX
     clear hxs
     go_wp2_with fail
     refine(HC.out _ HB.out).mono ?_
     rintro e w3 ⟨rfl,hb3⟩
     clear HC e0 e1 e2 e3 e4 hdk
     have hg3:=Bo.NmAt.keep HG.out hb3
     have HB3:=Lib.hid (HB.out.trans (hb3.mono HB.out.size))
     have hit:=HIT.out
     have hgl3:w.heap.size < w3.heap.size:=lt_blk hg3
     have d0:=(cell_blk (i:=i) hg3).trans (La.cl_at hit)
     have f0:w3.frozen? ⟨w.heap.size,i,none⟩=false:=frozen_blk hg3
     have hst:=hg3.set i r
     rw[HNX.out] at hst
     have HST:Hid (Bo.NmAt (w3.setCell ⟨w.heap.size,i,none⟩ (.int .u64 (r:Int))) w.heap.size (mkd (lowS S lo) 0 l (i+1))∧Below w.heap.size w (w3.setCell ⟨w.heap.size,i,none⟩ (.int .u64 (r:Int)))):=Lib.hid ⟨hst,HB3.out.setCell (p:=⟨w.heap.size,i,none⟩) (Nat.le_refl _) _⟩
     generalize L[i]=y at*
     clear hst hg3 hit hb3 HB HG
     go_wp2_with fail
     go_roundw
     case rel=>exact⟨i+1,by go_num,by have:=HLT.out;have:=HL.out;omega,HST.out.1,HST.out.2⟩
     case measure=>
      have:=HLT.out
      simp[intOf]
      omega
   ·obtain rfl:i=n:=by have:=HL.out;omega
    rw[← HL.out,mkd_end] at hg
    clear HLEAST
    go_wp2
    go_ret
    exact⟨_,rfl,Nat.le_refl _,hg,hb⟩)
set_option maxRecDepth 100000 in
set_option maxHeartbeats 4000000 in
theorem highs_any (l:List Sp)(A:Option Addr)(n c:Nat)(S:Bo.Sr)(q:Nat)(lo hi:List Nat)(rc:Nat→Nat→Bool)(v:Value)(A1:Option Addr)(n1 c1:Nat)(A2:Option Addr)(n2 c2:Nat)(A3:Option Addr)(n3 c3:Nat)(w:World)(hs:SlvAt w S q lo hi rc v A1 n1 c1 A2 n2 c2 A3 n3 c3)(h:Rs spc 5 w w.heap.size A n c l)(hz: ∀p∈l,U64 p.z)(hm: ∀p∈l,okT q p.v p.z.toNat)(hn:n≤256):
  Calls Tryz.prog 80 #[.slice A n c,.int .u8 0,.func (.method "Top") #[v] #[],.func (.func 82) #[slvV v A1 n1 c1 A2 n2 c2 A3 n3 c3] #[]] w fun e w'=> ∃g,e= .returned (.slice (some ⟨g,0,none⟩) n n)∧w.heap.size≤g∧Bo.NmAt w' g (l.map (highS S hi))∧Below w.heap.size w w':=by
 have hlen:=h.len
 have hcap:=h.cap
 have htop:=h.top
 unfold maxLen at htop
 have hmk: ∀W,(Instr.makeSlice 22 (.int .i64 (n:Int)) (.int .i64 (n:Int))).run Tryz.prog W= .ok (.slice (some ⟨W.heap.size,0,none⟩) n n) (W.alloc (.cells (La.cl (mkd (highS S hi) 0 l 0)) 60)):=fun W=>by
  rw[La.make_nm n (by omega) W,mkd,hlen]
  rfl
 have hg0:Bo.NmAt (w.alloc (.cells (La.cl (mkd (highS S hi) 0 l 0)) 60)) w.heap.size (mkd (highS S hi) 0 l 0):=heap_alloc_new w _
 have hb0:Below w.heap.size w (w.alloc (.cells (La.cl (mkd (highS S hi) 0 l 0)) 60)):=(Below.refl _ _).alloc (Nat.le_refl _) _
 have HR:=Lib.hid h
 have HL:=Lib.hid hlen
 have HG:=Lib.hid hg0
 have HZ:=Lib.hid hz
 have HM:=Lib.hid hm
 have hsv:=hs.s
 have HLEAST:Hid (∀(av:Bool) (an:Nat),okT q av an→ ∀x,Bo.vl hi av an=x→ ∀W,Below w.heap.size w W→Calls Tryz.prog 82 #[slvV v A1 n1 c1 A2 n2 c2 A3 n3 c3,Bo.tmv av an] W fun e w'=>e= .returned (.int .u64 (x:Int))∧Below W.heap.size W w'):=
  Lib.hid fun av an ok x hx W hW=>greatest_any av an S q lo hi rc v A1 n1 c1 A2 n2 c2 A3 n3 c3 W (hs.keep hW) ok x hx
 generalize La.cl (mkd (highS S hi) 0 l 0)=cs at*
 clear h hg0 hlen hz hm hs
 unfold slvV Bo.tmv at HLEAST
 unfold slvV
 rcases hsv with⟨pa,rfl,hA⟩|⟨pa,rfl,hA⟩
 all_goals(
  have HA:=Lib.hid hA
  clear hA
  go_enter Tryz.func80,Tryz.ntmps80
  go_wp2
  clear hmk
  go_loopw [17] (fun v17 wr=>EnRel' (highS S hi) l w v17 wr) (fun v17 _=>n - (intOf v17).toNat)
  case atStart=>exact⟨0,rfl,by omega,HG.out,hb0⟩
  case round=>
   clear HG hb0
   obtain⟨i,rfl,hik,hg,hb⟩:=hrel
   by_cases hlt:i < n
   ·have hi':i < l.length:=by rw[HL.out];exact hlt
    have hr:=(HR.out.at_size (Nat.le_refl _) hb)
    obtain⟨b,o,rfl,hbb,e0,e1,e2,e3,e4⟩:=spot_at hr hi'
    have hu:=HZ.out _ (List.getElem_mem hi')
    have hk:=HM.out _ (List.getElem_mem hi')
    have hgl:w.heap.size < wr.heap.size:=lt_blk hg
    have hit:i < (mkd (highS S hi) 0 l i).length:=by rw[mkd_len hik];exact hi'
    have HNX:=Lib.hid (mkd_next (f:=highS S hi) (z:=0) hi')
    have HLT:=Lib.hid hlt
    have hdk:decide ((i:Int) < (n:Int))=true:=decide_eq_true (by omega)
    generalize mkd (highS S hi) 0 l i=L at*
    generalize l[i]=x at*
    obtain⟨xn,xp,xs,xv,xz⟩:=x
    simp only at e0 e1 e2 e3 e4 hu hk
    obtain⟨z,rfl,hzz⟩:=hu.nat
    obtain⟨r,hr0⟩: ∃r,Bo.vl hi xv z=r:=⟨_,rfl⟩
    have hfx:highS S hi ⟨xn,xp,xs,xv,(z:Int)⟩=if xs=0 then S.top else r:=by
     unfold highS tmL
     subst hr0
     rfl
    rw[hfx] at HNX
    rw[Int.toNat_natCast] at hk
    have HC:=Lib.hid (HLEAST.out xv z hk r hr0)
    clear hk hr0 hfx
    have hal:Below wr.heap.size wr (wr.alloc (.cells #[.int .i64 (xn:Int),.int .u8 (xp:Int),.int .u8 (xs:Int),.bool xv,.int .u64 (z:Int)] 67)):=(Below.refl _ _).alloc (Nat.le_refl _) _
    have HB:=Lib.hid (hb.trans (hal.mono hb.size))
    have HG:=Lib.hid (Bo.NmAt.keep hg hal)
    have HIT:=Lib.hid hit
    clear hr hbb hg hit hi' hik hb hlt hal hu hzz hgl
    by_cases hxs:xs=0
    ·subst hxs
     rw[if_pos rfl] at HNX
     clear HC
     go_wp2_with fail
     refine(HA.out.top _ HB.out).mono ?_
     rintro e w3 ⟨rfl,hb3⟩
     clear e0 e1 e2 e3 e4 hdk
     have hg3:=Bo.NmAt.keep HG.out hb3
     have HB3:=Lib.hid (HB.out.trans (hb3.mono HB.out.size))
     have hit:=HIT.out
     have hgl3:w.heap.size < w3.heap.size:=lt_blk hg3
     have d0:=(cell_blk (i:=i) hg3).trans (La.cl_at hit)
     have f0:w3.frozen? ⟨w.heap.size,i,none⟩=false:=frozen_blk hg3
     have hst:=hg3.set i S.top
     rw[HNX.out] at hst
     have HST:Hid (Bo.NmAt (w3.setCell ⟨w.heap.size,i,none⟩ (.int .u64 (S.top:Int))) w.heap.size (mkd (highS S hi) 0 l (i+1))∧Below w.heap.size w (w3.setCell ⟨w.heap.size,i,none⟩ (.int .u64 (S.top:Int)))):=Lib.hid ⟨hst,HB3.out.setCell (p:=⟨w.heap.size,i,none⟩) (Nat.le_refl _) _⟩
     generalize L[i]=y at*
     clear hst hg3 hit hb3 HB HG
     go_wp2_with fail
     go_roundw
     case rel=>exact⟨i+1,by go_num,by have:=HLT.out;have:=HL.out;omega,HST.out.1,HST.out.2⟩
     case measure=>
      have:=HLT.out
      simp[intOf]
      omega
    ·have hne:((xs:Int)==0)=false:=by
      rw[beq_eq_false_iff_ne]
      omega
     rw[if_neg hxs] at HNX
     clear hxs
     go_wp2_with fail
     refine(HC.out _ HB.out).mono ?_
     rintro e w3 ⟨rfl,hb3⟩
     clear HC e0 e1 e2 e3 e4 hdk
     have hg3:=Bo.NmAt.keep HG.out hb3
     have HB3:=Lib.hid (HB.out.trans (hb3.mono HB.out.size))
     have hit:=HIT.out
     have hgl3:w.heap.size < w3.heap.size:=lt_blk hg3
     have d0:=(cell_blk (i:=i) hg3).trans (La.cl_at hit)
     have f0:w3.frozen? ⟨w.heap.size,i,none⟩=false:=frozen_blk hg3
     have hst:=hg3.set i r
     rw[HNX.out] at hst
     have HST:Hid (Bo.NmAt (w3.setCell ⟨w.heap.size,i,none⟩ (.int .u64 (r:Int))) w.heap.size (mkd (highS S hi) 0 l (i+1))∧Below w.heap.size w (w3.setCell ⟨w.heap.size,i,none⟩ (.int .u64 (r:Int)))):=Lib.hid ⟨hst,HB3.out.setCell (p:=⟨w.heap.size,i,none⟩) (Nat.le_refl _) _⟩
     generalize L[i]=y at*
     clear hst hg3 hit hb3 HB HG
     go_wp2_with fail
     go_roundw
     case rel=>exact⟨i+1,by go_num,by have:=HLT.out;have:=HL.out;omega,HST.out.1,HST.out.2⟩
     case measure=>
      have:=HLT.out
      simp[intOf]
      omega
   ·obtain rfl:i=n:=by have:=HL.out;omega
    rw[← HL.out,mkd_end] at hg
    clear HLEAST
    go_wp2
    go_ret
    exact⟨_,rfl,Nat.le_refl _,hg,hb⟩)
end Go.Proofs.YtmejhedegmjboaaGreat
