import Derived.Test.YtmejhedegmjboaaGreatBel
import Derived.Test.YtmejhedegmjboaaGreatRws
import Derived.Test.YtmejhedegmjboaaGreatSides
set_option maxRecDepth 100000
set_option maxHeartbeats 4000000
namespace Go.Proofs.YtmejhedegmjboaaGreat
open Go.RowKit
structure Ix (w:World)(bl bv:Nat)(A:Option Addr)(n c:Nat)(v:Value)(A1:Option Addr)(n1 c1:Nat)(A2:Option Addr)(n2 c2:Nat)(A3:Option Addr)(n3 c3:Nat):Prop where
 c0:w.cell? ⟨bl,0,none⟩=some (.slice A n c)
 s0:w.cell? ⟨bv,0,none⟩=some v
 s1:w.cell? ⟨bv,1,none⟩=some (.slice A1 n1 c1)
 s2:w.cell? ⟨bv,2,none⟩=some (.slice A2 n2 c2)
 s3:w.cell? ⟨bv,3,none⟩=some (.slice A3 n3 c3)
theorem Ix.keep {w W:World}{bl bv:Nat}{A:Option Addr}{n c:Nat}{v:Value}{A1:Option Addr}{n1 c1:Nat}{A2:Option Addr}{n2 c2:Nat}{A3:Option Addr}{n3 c3:Nat}(h:Ix w bl bv A n c v A1 n1 c1 A2 n2 c2 A3 n3 c3)(hb:Below w.heap.size w W):Ix W bl bv A n c v A1 n1 c1 A2 n2 c2 A3 n3 c3:=
 ⟨Za h.c0 hb,Za h.s0 hb,Za h.s1 hb,Za h.s2 hb,Za h.s3 hb⟩
structure Iy (w:World)(b o i j:Nat)(si sj:Nat)(av:Bool)(an:Nat)(bv':Bool)(bn:Nat):Prop where
 i2:w.cell? ⟨b,o+i*5+2,none⟩=some (.int .u8 (si:Int))
 i3:w.cell? ⟨b,o+i*5+3,none⟩=some (.bool av)
 i4:w.cell? ⟨b,o+i*5+4,none⟩=some (.int .u64 (an:Int))
 j2:w.cell? ⟨b,o+j*5+2,none⟩=some (.int .u8 (sj:Int))
 j3:w.cell? ⟨b,o+j*5+3,none⟩=some (.bool bv')
 j4:w.cell? ⟨b,o+j*5+4,none⟩=some (.int .u64 (bn:Int))
theorem Iy.keep {w W:World}{b o i j si sj:Nat}{av:Bool}{an:Nat}{bv':Bool}{bn:Nat}(h:Iy w b o i j si sj av an bv' bn)(hb:Below w.heap.size w W):Iy W b o i j si sj av an bv' bn:=
 ⟨Za h.i2 hb,Za h.i3 hb,Za h.i4 hb,Za h.j2 hb,Za h.j3 hb,Za h.j4 hb⟩
theorem ZlP {z:Int}(h:U64 z):((z.toNat:Nat):Int)=z∧z.toNat < 18446744073709551616:=by
 obtain⟨h0,h1⟩:=h
 omega
theorem ZlQ (i j bl bv:Nat)(l:List Sp)(A:Option Addr)(n c:Nat)(S:Bo.Sr)(q:Nat)(lo hi:List Nat)(rc:Nat→Nat→Bool)(v:Value)(A1:Option Addr)(n1 c1:Nat)(A2:Option Addr)(n2 c2:Nat)(A3:Option Addr)(n3 c3:Nat)(w:World)(hx:Ix w bl bv A n c v A1 n1 c1 A2 n2 c2 A3 n3 c3)(h:Ut w S q lo hi rc v A1 n1 c1 A2 n2 c2 A3 n3 c3)(hr:Rs spc 5 w w.heap.size A n c l)(hz: ∀p∈l,U64 p.z)(hm: ∀p∈l,okT q p.v p.z.toNat)(hil:i < l.length)(hjl:j < l.length)(x:Bool)(he:belS S lo hi rc l[i] l[j]=x):
  Calls Tryz.prog 78 #[.int .i64 (i:Int),.int .i64 (j:Int),.pointer (some ⟨bl,0,none⟩),.pointer (some ⟨bv,0,none⟩)] w fun e w'=>e= .returned (.bool x)∧Below w.heap.size w w':=by
 have hlen:=hr.len
 have hin:(i:Int) < (n:Int):=by omega
 have hjn:(j:Int) < (n:Int):=by omega
 obtain⟨b,o,rfl,hbb,-,-,e2,e3,e4⟩:=Z7 hr hil
 obtain⟨b',o',hA,-,-,-,f2,f3,f4⟩:=Z7 hr hjl
 injection hA with hA
 injection hA with hb' ho'
 subst hb' ho'
 obtain⟨za,fa⟩:=ZlP (hz _ (List.getElem_mem hil))
 obtain⟨zb,fb⟩:=ZlP (hz _ (List.getElem_mem hjl))
 rw[← za] at e4
 rw[← zb] at f4
 have ha:=hm _ (List.getElem_mem hil)
 have hb:=hm _ (List.getElem_mem hjl)
 obtain⟨y,hy⟩: ∃y,alwT S lo hi rc l[i].v l[i].z.toNat l[j].v l[j].z.toNat=y:=⟨_,rfl⟩
 have HC:Hid (∀W,Below w.heap.size w W→Calls Tryz.prog 79 #[slvV v A1 n1 c1 A2 n2 c2 A3 n3 c3,Bo.tmv l[i].v l[i].z.toNat,Bo.tmv l[j].v l[j].z.toNat] W fun e w'=>e= .returned (.bool y)∧Below W.heap.size W w'):=
  Hd fun W hW=>ZaO l[i].v l[i].z.toNat l[j].v l[j].z.toNat S q lo hi rc v A1 n1 c1 A2 n2 c2 A3 n3 c3 W (h.keep hW) ha hb fa fb y hy
 have he':(!decide (l[i].s=0) && (!decide (l[j].s=1) && y))=x:=by rw[← hy];exact he
 have hs:=h.s
 clear he hy ha hb za zb fa fb hm hz hlen hbb h hr
 generalize l[i].s=si at*
 generalize l[j].s=sj at*
 generalize l[i].v=av at*
 generalize l[j].v=bv' at*
 generalize l[i].z.toNat=an at*
 generalize l[j].z.toNat=bn at*
 have hc:Iy w b o i j si sj av an bv' bn:=⟨e2,e3,e4,f2,f3,f4⟩
 clear e2 e3 e4 f2 f3 f4
 unfold slvV Bo.tmv at HC
 have HE:=Hd he'
 clear he' hil hjl
 have q0:((si:Int) !=0)= !decide (si=0):=by by_cases g:si=0 <;> simp[g]
 have q1:((sj:Int) !=1)= !decide (sj=1):=by(
 by_cases g:sj=1
 ·subst g;rfl
 ·have: ¬(sj:Int)=1:=by omega
  simp[g,this])
 rcases hs with⟨p,rfl,-⟩|⟨p,rfl,-⟩
 all_goals(
 go_enter Tryz.func78,Tryz.ntmps78
 go_wp2_with fail
 rw[← q0, ← q1] at HE
 by_cases g0:si=0
 ·(
 have q2:((si:Int) !=0)=false:=by rw[q0];simp[g0]
 rw[q2] at HE
 clear q0 q1 g0 HC
 refine wro [0,1,2,3,4,5,6,7,8,9,10,11,12,13,14,15,16,17,18,19,20,21,22,23,24,25,26,27,28] [26] 29 (fun w'=>Ix w' bl bv (some ⟨b,o,none⟩) n c _ A1 n1 c1 A2 n2 c2 A3 n3 c3∧Iy w' b o i j si sj av an bv' bn) (by kernel_rfl) (fun _ _ _ _ _ h=>h) ⟨hx.keep (Below.refl _ w).drew,hc.keep (Below.refl _ w).drew⟩ ?_
 simp only[steps,sE,sD]
 repeat((first|refine Zf rfl ?_|(refine Zd (v:= ?_) rfl rfl ?_ ?_;rotate_left;(focus(rintro w' ⟨⟨x0,x1,x2,x3,x4⟩,x5,x6,x7,x8,x9,x10⟩;go_simp;try with_reducible rfl))));simp only[Act.put,sA,sB,sC])
 refine Zg ?_
 go_wp2_with fail
 go_ret
 exact⟨by rw[← HE.out];rfl,(Below.refl _ w).drew⟩)
 ·have q2:((si:Int) !=0)=true:=by rw[q0];simp[g0]
  rw[q2] at HE
  by_cases g1:sj=1
  ·(
 have q3:((sj:Int) !=1)=false:=by rw[q1];simp[g1]
 rw[q3] at HE
 clear q0 q1 g0 g1 HC
 refine wro [0,1,2,3,4,5,6,7,8,9,10,11,12,13,14,15,16,17,18,19,20,21,22,23,24,25,26,27,28] [26] 29 (fun w'=>Ix w' bl bv (some ⟨b,o,none⟩) n c _ A1 n1 c1 A2 n2 c2 A3 n3 c3∧Iy w' b o i j si sj av an bv' bn) (by kernel_rfl) (fun _ _ _ _ _ h=>h) ⟨hx.keep (Below.refl _ w).drew,hc.keep (Below.refl _ w).drew⟩ ?_
 simp only[steps,sE,sD]
 repeat((first|refine Zf rfl ?_|(refine Zd (v:= ?_) rfl rfl ?_ ?_;rotate_left;(focus(rintro w' ⟨⟨x0,x1,x2,x3,x4⟩,x5,x6,x7,x8,x9,x10⟩;go_simp;try with_reducible rfl))));simp only[Act.put,sA,sB,sC])
 refine Zg ?_
 go_wp2_with fail
 go_ret
 exact⟨by rw[← HE.out];rfl,(Below.refl _ w).drew⟩)
  ·have q3:((sj:Int) !=1)=true:=by rw[q1];simp[g1]
   rw[q3] at HE
   clear q0 q1 g0 g1
   refine wro [0,1,2,3,4,5,6,7,8,9,10,11,12,13,14,15,16,17,18,19,20,21,22,23,24,25,26,27,28] [26] 29 (fun w'=>Ix w' bl bv (some ⟨b,o,none⟩) n c _ A1 n1 c1 A2 n2 c2 A3 n3 c3∧Iy w' b o i j si sj av an bv' bn) (by kernel_rfl) (fun _ _ _ _ _ h=>h) ⟨hx.keep (Below.refl _ w).drew,hc.keep (Below.refl _ w).drew⟩ ?_
   simp only[steps,sE,sD]
   repeat((first|refine Zf rfl ?_|(refine Zd (v:= ?_) rfl rfl ?_ ?_;rotate_left;(focus(rintro w' ⟨⟨x0,x1,x2,x3,x4⟩,x5,x6,x7,x8,x9,x10⟩;go_simp;try with_reducible rfl))));simp only[Act.put,sA,sB,sC])
   refine Ze rfl rfl (fun K hK=> ?_)
   go_simp
   refine(HC.out _ (Below.refl _ w).drew).mono ?_
   rintro e w1 ⟨rfl,hv⟩
   have hv2:=(Below.refl w.heap.size w).drew.trans (hv.mono (Below.refl w.heap.size w).drew.size)
   replace hx:=hx.keep hv2
   replace hc:=hc.keep hv2
   refine hK.out _ _ (fun _=>⟨hx,hc⟩) ?_
   clear hK K
   try simp only[Act.put,sA,sB,sC]
   repeat((first|refine Zf rfl ?_|(refine Zd (v:= ?_) rfl rfl ?_ ?_;rotate_left;(focus(rintro w' ⟨⟨x0,x1,x2,x3,x4⟩,x5,x6,x7,x8,x9,x10⟩;go_simp;try with_reducible rfl))));simp only[Act.put,sA,sB,sC])
   refine Zg ?_
   go_wp2_with fail
   go_ret
   exact⟨by rw[← HE.out];rfl,hv2⟩)
def Zjl (f:Sp→Nat)(l:List Sp)(w:World)(v17:Value)(wr:World):Prop:= ∃i:Nat,v17= .int .i64 (i:Int)∧i≤l.length∧Bo.NmAt wr w.heap.size (mkd f 0 l i)∧Below w.heap.size w wr
theorem Zio (l:List Sp)(A:Option Addr)(n c:Nat)(S:Bo.Sr)(q:Nat)(lo hi:List Nat)(rc:Nat→Nat→Bool)(v:Value)(A1:Option Addr)(n1 c1:Nat)(A2:Option Addr)(n2 c2:Nat)(A3:Option Addr)(n3 c3:Nat)(w:World)(hs:Ut w S q lo hi rc v A1 n1 c1 A2 n2 c2 A3 n3 c3)(h:Rs spc 5 w w.heap.size A n c l)(hz: ∀p∈l,U64 p.z)(hm: ∀p∈l,okT q p.v p.z.toNat)(hn:n≤256):
  Calls Tryz.prog 80 #[.slice A n c,.int .u8 1,.func (.method "Bottom") #[v] #[],.func (.func 81) #[slvV v A1 n1 c1 A2 n2 c2 A3 n3 c3] #[]] w fun e w'=> ∃g,e= .returned (.slice (some ⟨g,0,none⟩) n n)∧w.heap.size≤g∧Bo.NmAt w' g (l.map (lowS S lo))∧Below w.heap.size w w':=by
 have hlen:=h.len
 have hcap:=h.cap
 have htop:=h.top
 unfold maxLen at htop
 have hmk: ∀W,(Instr.makeSlice 22 (.int .i64 (n:Int)) (.int .i64 (n:Int))).run Tryz.prog W= .ok (.slice (some ⟨W.heap.size,0,none⟩) n n) (W.alloc (.cells (La.cl (mkd (lowS S lo) 0 l 0)) 60)):=fun W=>by
  rw[La.Zac n (by omega) W,mkd,hlen]
  rfl
 have hg0:Bo.NmAt (w.alloc (.cells (La.cl (mkd (lowS S lo) 0 l 0)) 60)) w.heap.size (mkd (lowS S lo) 0 l 0):=heap_alloc_new w _
 have hb0:Below w.heap.size w (w.alloc (.cells (La.cl (mkd (lowS S lo) 0 l 0)) 60)):=bA
 have HR:=Hd h
 have HL:=Hd hlen
 have HG:=Hd hg0
 have HZ:=Hd hz
 have HM:=Hd hm
 have hsv:=hs.s
 have HLEAST:Hid (∀(av:Bool) (an:Nat),okT q av an→ ∀x,Bo.vl lo av an=x→ ∀W,Below w.heap.size w W→Calls Tryz.prog 81 #[slvV v A1 n1 c1 A2 n2 c2 A3 n3 c3,Bo.tmv av an] W fun e w'=>e= .returned (.int .u64 (x:Int))∧Below W.heap.size W w'):=
  Hd fun av an ok x hx W hW=>Zbj av an S q lo hi rc v A1 n1 c1 A2 n2 c2 A3 n3 c3 W (hs.keep hW) ok x hx
 generalize La.cl (mkd (lowS S lo) 0 l 0)=cs at*
 clear h hg0 hlen hz hm hs
 unfold slvV Bo.tmv at HLEAST
 unfold slvV
 rcases hsv with⟨pa,rfl,hA⟩|⟨pa,rfl,hA⟩
 all_goals(
 have HA:=Hd hA
 clear hA
 go_enter Tryz.func80,Tryz.ntmps80
 go_wp2
 clear hmk
 go_loopw [17] (fun v17 wr=>Zjl (lowS S lo) l w v17 wr) (fun v17 _=>n - (intOf v17).toNat)
 case atStart=>exact⟨0,rfl,by omega,HG.out,hb0⟩
 case round=>
  clear HG hb0
  obtain⟨i,rfl,hik,hg,hb⟩:=hrel
  by_cases hlt:i < n
  ·(
 have hi':i < l.length:=by rw[HL.out];exact hlt
 have hr:=(HR.out.at_size lR hb)
 obtain⟨b,o,rfl,hbb,e0,e1,e2,e3,e4⟩:=Z7 hr hi'
 have hu:=HZ.out _ (List.getElem_mem hi')
 have hk:=HM.out _ (List.getElem_mem hi')
 have hgl:w.heap.size < wr.heap.size:=Zh hg
 have hit:i < (mkd (lowS S lo) 0 l i).length:=by rw[Zco hik];exact hi'
 have HNX:=Hd (ZaH (f:=lowS S lo) (z:=0) hi')
 have HLT:=Hd hlt
 have hdk:decide ((i:Int) < (n:Int))=true:=decide_eq_true (by omega)
 generalize mkd (lowS S lo) 0 l i=L at*
 generalize l[i]=x at*
 obtain⟨xn,xp,xs,xv,xz⟩:=x
 simp only at e0 e1 e2 e3 e4 hu hk
 obtain⟨z,rfl,hzz⟩:=hu.nat
 obtain⟨r,hr0⟩: ∃r,Bo.vl lo xv z=r:=⟨_,rfl⟩
 have hfx:lowS S lo ⟨xn,xp,xs,xv,(z:Int)⟩=if xs=1 then S.bot else r:=by(
 unfold lowS tmL
 subst hr0
 rfl)
 rw[hfx] at HNX
 rw[Int.toNat_natCast] at hk
 have HC:=Hd (HLEAST.out xv z hk r hr0)
 clear hk hr0 hfx
 have hal:Below wr.heap.size wr (wr.alloc (.cells #[.int .i64 (xn:Int),.int .u8 (xp:Int),.int .u8 (xs:Int),.bool xv,.int .u64 (z:Int)] 67)):=bA
 have HB:=Hd (hb.trans (hal.mono hb.size))
 have HG:=Hd (Bo.NmAt.keep hg hal)
 have HIT:=Hd hit
 clear hr hbb hg hit hi' hik hb hlt hal hu hzz hgl
 by_cases hxs:xs=1
 ·(
 subst hxs
 rw[if_pos rfl] at HNX
 clear HC
 go_wp2_with fail
 refine(HA.out.bot _ HB.out).mono ?_
 rintro e w3 ⟨rfl,hb3⟩
 clear e0 e1 e2 e3 e4 hdk
 have hg3:=Bo.NmAt.keep HG.out hb3
 have HB3:=Hd (HB.out.trans (hb3.mono HB.out.size))
 have hit:=HIT.out
 have hgl3:w.heap.size < w3.heap.size:=Zh hg3
 have d0:=(Zb (i:=i) hg3).trans (La.Uc hit)
 have f0:w3.frozen? ⟨w.heap.size,i,none⟩=false:=Zc hg3
 have hst:=hg3.set i S.bot
 rw[HNX.out] at hst
 have HST:Hid (Bo.NmAt (w3.setCell ⟨w.heap.size,i,none⟩ (.int .u64 (S.bot:Int))) w.heap.size (mkd (lowS S lo) 0 l (i+1))∧Below w.heap.size w (w3.setCell ⟨w.heap.size,i,none⟩ (.int .u64 (S.bot:Int)))):=Hd ⟨hst,HB3.out.setCell (p:=⟨w.heap.size,i,none⟩) lR _⟩
 generalize L[i]=y at*
 clear hst hg3 hit hb3 HB HG
 go_wp2_with fail
 go_roundw
 case rel=>exact⟨i+1,by go_num,by have:=HLT.out;have:=HL.out;omega,HST.out.1,HST.out.2⟩
 case measure=>(
 have:=HLT.out
 simp[intOf]
 omega))
 ·have hne:((xs:Int)==1)=false:=by
   rw[beq_eq_false_iff_ne]
   omega
  rw[if_neg hxs] at HNX
  clear hxs
  go_wp2_with fail
  refine(HC.out _ HB.out).mono ?_
  rintro e w3 ⟨rfl,hb3⟩
  clear HC e0 e1 e2 e3 e4 hdk
  have hg3:=Bo.NmAt.keep HG.out hb3
  have HB3:=Hd (HB.out.trans (hb3.mono HB.out.size))
  have hit:=HIT.out
  have hgl3:w.heap.size < w3.heap.size:=Zh hg3
  have d0:=(Zb (i:=i) hg3).trans (La.Uc hit)
  have f0:w3.frozen? ⟨w.heap.size,i,none⟩=false:=Zc hg3
  have hst:=hg3.set i r
  rw[HNX.out] at hst
  have HST:Hid (Bo.NmAt (w3.setCell ⟨w.heap.size,i,none⟩ (.int .u64 (r:Int))) w.heap.size (mkd (lowS S lo) 0 l (i+1))∧Below w.heap.size w (w3.setCell ⟨w.heap.size,i,none⟩ (.int .u64 (r:Int)))):=Hd ⟨hst,HB3.out.setCell (p:=⟨w.heap.size,i,none⟩) lR _⟩
  generalize L[i]=y at*
  clear hst hg3 hit hb3 HB HG
  go_wp2_with fail
  go_roundw
  case rel=>exact⟨i+1,by go_num,by have:=HLT.out;have:=HL.out;omega,HST.out.1,HST.out.2⟩
  case measure=>(
 have:=HLT.out
 simp[intOf]
 omega))
  ·obtain rfl:i=n:=by have:=HL.out;omega
   rw[← HL.out,Zcp] at hg
   clear HLEAST
   go_wp2
   go_ret
   exact⟨_,rfl,Nat.le_refl _,hg,hb⟩)
theorem Zgl (l:List Sp)(A:Option Addr)(n c:Nat)(S:Bo.Sr)(q:Nat)(lo hi:List Nat)(rc:Nat→Nat→Bool)(v:Value)(A1:Option Addr)(n1 c1:Nat)(A2:Option Addr)(n2 c2:Nat)(A3:Option Addr)(n3 c3:Nat)(w:World)(hs:Ut w S q lo hi rc v A1 n1 c1 A2 n2 c2 A3 n3 c3)(h:Rs spc 5 w w.heap.size A n c l)(hz: ∀p∈l,U64 p.z)(hm: ∀p∈l,okT q p.v p.z.toNat)(hn:n≤256):
  Calls Tryz.prog 80 #[.slice A n c,.int .u8 0,.func (.method "Top") #[v] #[],.func (.func 82) #[slvV v A1 n1 c1 A2 n2 c2 A3 n3 c3] #[]] w fun e w'=> ∃g,e= .returned (.slice (some ⟨g,0,none⟩) n n)∧w.heap.size≤g∧Bo.NmAt w' g (l.map (V5 S hi))∧Below w.heap.size w w':=by
 have hlen:=h.len
 have hcap:=h.cap
 have htop:=h.top
 unfold maxLen at htop
 have hmk: ∀W,(Instr.makeSlice 22 (.int .i64 (n:Int)) (.int .i64 (n:Int))).run Tryz.prog W= .ok (.slice (some ⟨W.heap.size,0,none⟩) n n) (W.alloc (.cells (La.cl (mkd (V5 S hi) 0 l 0)) 60)):=fun W=>by
  rw[La.Zac n (by omega) W,mkd,hlen]
  rfl
 have hg0:Bo.NmAt (w.alloc (.cells (La.cl (mkd (V5 S hi) 0 l 0)) 60)) w.heap.size (mkd (V5 S hi) 0 l 0):=heap_alloc_new w _
 have hb0:Below w.heap.size w (w.alloc (.cells (La.cl (mkd (V5 S hi) 0 l 0)) 60)):=bA
 have HR:=Hd h
 have HL:=Hd hlen
 have HG:=Hd hg0
 have HZ:=Hd hz
 have HM:=Hd hm
 have hsv:=hs.s
 have HLEAST:Hid (∀(av:Bool) (an:Nat),okT q av an→ ∀x,Bo.vl hi av an=x→ ∀W,Below w.heap.size w W→Calls Tryz.prog 82 #[slvV v A1 n1 c1 A2 n2 c2 A3 n3 c3,Bo.tmv av an] W fun e w'=>e= .returned (.int .u64 (x:Int))∧Below W.heap.size W w'):=
  Hd fun av an ok x hx W hW=>Y9 av an S q lo hi rc v A1 n1 c1 A2 n2 c2 A3 n3 c3 W (hs.keep hW) ok x hx
 generalize La.cl (mkd (V5 S hi) 0 l 0)=cs at*
 clear h hg0 hlen hz hm hs
 unfold slvV Bo.tmv at HLEAST
 unfold slvV
 rcases hsv with⟨pa,rfl,hA⟩|⟨pa,rfl,hA⟩
 all_goals(
 have HA:=Hd hA
 clear hA
 go_enter Tryz.func80,Tryz.ntmps80
 go_wp2
 clear hmk
 go_loopw [17] (fun v17 wr=>Zjl (V5 S hi) l w v17 wr) (fun v17 _=>n - (intOf v17).toNat)
 case atStart=>exact⟨0,rfl,by omega,HG.out,hb0⟩
 case round=>
  clear HG hb0
  obtain⟨i,rfl,hik,hg,hb⟩:=hrel
  by_cases hlt:i < n
  ·(
 have hi':i < l.length:=by rw[HL.out];exact hlt
 have hr:=(HR.out.at_size lR hb)
 obtain⟨b,o,rfl,hbb,e0,e1,e2,e3,e4⟩:=Z7 hr hi'
 have hu:=HZ.out _ (List.getElem_mem hi')
 have hk:=HM.out _ (List.getElem_mem hi')
 have hgl:w.heap.size < wr.heap.size:=Zh hg
 have hit:i < (mkd (V5 S hi) 0 l i).length:=by rw[Zco hik];exact hi'
 have HNX:=Hd (ZaH (f:=V5 S hi) (z:=0) hi')
 have HLT:=Hd hlt
 have hdk:decide ((i:Int) < (n:Int))=true:=decide_eq_true (by omega)
 generalize mkd (V5 S hi) 0 l i=L at*
 generalize l[i]=x at*
 obtain⟨xn,xp,xs,xv,xz⟩:=x
 simp only at e0 e1 e2 e3 e4 hu hk
 obtain⟨z,rfl,hzz⟩:=hu.nat
 obtain⟨r,hr0⟩: ∃r,Bo.vl hi xv z=r:=⟨_,rfl⟩
 have hfx:V5 S hi ⟨xn,xp,xs,xv,(z:Int)⟩=if xs=0 then S.top else r:=by(
 unfold V5 tmL
 subst hr0
 rfl)
 rw[hfx] at HNX
 rw[Int.toNat_natCast] at hk
 have HC:=Hd (HLEAST.out xv z hk r hr0)
 clear hk hr0 hfx
 have hal:Below wr.heap.size wr (wr.alloc (.cells #[.int .i64 (xn:Int),.int .u8 (xp:Int),.int .u8 (xs:Int),.bool xv,.int .u64 (z:Int)] 67)):=bA
 have HB:=Hd (hb.trans (hal.mono hb.size))
 have HG:=Hd (Bo.NmAt.keep hg hal)
 have HIT:=Hd hit
 clear hr hbb hg hit hi' hik hb hlt hal hu hzz hgl
 by_cases hxs:xs=0
 ·(
 subst hxs
 rw[if_pos rfl] at HNX
 clear HC
 go_wp2_with fail
 refine(HA.out.top _ HB.out).mono ?_
 rintro e w3 ⟨rfl,hb3⟩
 clear e0 e1 e2 e3 e4 hdk
 have hg3:=Bo.NmAt.keep HG.out hb3
 have HB3:=Hd (HB.out.trans (hb3.mono HB.out.size))
 have hit:=HIT.out
 have hgl3:w.heap.size < w3.heap.size:=Zh hg3
 have d0:=(Zb (i:=i) hg3).trans (La.Uc hit)
 have f0:w3.frozen? ⟨w.heap.size,i,none⟩=false:=Zc hg3
 have hst:=hg3.set i S.top
 rw[HNX.out] at hst
 have HST:Hid (Bo.NmAt (w3.setCell ⟨w.heap.size,i,none⟩ (.int .u64 (S.top:Int))) w.heap.size (mkd (V5 S hi) 0 l (i+1))∧Below w.heap.size w (w3.setCell ⟨w.heap.size,i,none⟩ (.int .u64 (S.top:Int)))):=Hd ⟨hst,HB3.out.setCell (p:=⟨w.heap.size,i,none⟩) lR _⟩
 generalize L[i]=y at*
 clear hst hg3 hit hb3 HB HG
 go_wp2_with fail
 go_roundw
 case rel=>exact⟨i+1,by go_num,by have:=HLT.out;have:=HL.out;omega,HST.out.1,HST.out.2⟩
 case measure=>(
 have:=HLT.out
 simp[intOf]
 omega))
 ·have hne:((xs:Int)==0)=false:=by
   rw[beq_eq_false_iff_ne]
   omega
  rw[if_neg hxs] at HNX
  clear hxs
  go_wp2_with fail
  refine(HC.out _ HB.out).mono ?_
  rintro e w3 ⟨rfl,hb3⟩
  clear HC e0 e1 e2 e3 e4 hdk
  have hg3:=Bo.NmAt.keep HG.out hb3
  have HB3:=Hd (HB.out.trans (hb3.mono HB.out.size))
  have hit:=HIT.out
  have hgl3:w.heap.size < w3.heap.size:=Zh hg3
  have d0:=(Zb (i:=i) hg3).trans (La.Uc hit)
  have f0:w3.frozen? ⟨w.heap.size,i,none⟩=false:=Zc hg3
  have hst:=hg3.set i r
  rw[HNX.out] at hst
  have HST:Hid (Bo.NmAt (w3.setCell ⟨w.heap.size,i,none⟩ (.int .u64 (r:Int))) w.heap.size (mkd (V5 S hi) 0 l (i+1))∧Below w.heap.size w (w3.setCell ⟨w.heap.size,i,none⟩ (.int .u64 (r:Int)))):=Hd ⟨hst,HB3.out.setCell (p:=⟨w.heap.size,i,none⟩) lR _⟩
  generalize L[i]=y at*
  clear hst hg3 hit hb3 HB HG
  go_wp2_with fail
  go_roundw
  case rel=>exact⟨i+1,by go_num,by have:=HLT.out;have:=HL.out;omega,HST.out.1,HST.out.2⟩
  case measure=>(
 have:=HLT.out
 simp[intOf]
 omega))
  ·obtain rfl:i=n:=by have:=HL.out;omega
   rw[← HL.out,Zcp] at hg
   clear HLEAST
   go_wp2
   go_ret
   exact⟨_,rfl,Nat.le_refl _,hg,hb⟩)
def senV (A1:Option Addr)(n1 c1:Nat)(A2:Option Addr)(n2 c2:Nat)(A3:Option Addr)(n3 c3:Nat)(A4:Option Addr)(n4 c4:Nat):Value:= .agg #[.slice A1 n1 c1,.slice A2 n2 c2,.slice A3 n3 c3,.slice A4 n4 c4]
structure Zx (w:World)(z:Sen)(A1:Option Addr)(n1 c1:Nat)(A2:Option Addr)(n2 c2:Nat)(A3:Option Addr)(n3 c3:Nat)(A4:Option Addr)(n4 c4:Nat):Prop where
 rp:Rs spc 5 w w.heap.size A1 n1 c1 z.p
 rl:Rd La.nm w w.heap.size A2 n2 c2 z.lo
 rh:Rd La.nm w w.heap.size A3 n3 c3 z.hi
 rb:Ve w w.heap.size A4 n4 c4 z.be
 fp: ∀p∈z.p,U64 p.z
 fl:La.Fit z.lo
 fh:La.Fit z.hi
theorem Zx.none (w:World):Zx w Sen.none none 0 0 none 0 0 none 0 0 none 0 0:=
 ⟨Rs.nil _ _,Rd.nil _ _,Rd.nil _ _,Ve.nil _ _,(fun _ h=>by cases h),(fun _ h=>by cases h),fun _ h=>by cases h⟩
def nSp:Sp:=⟨0,0,0,false,0⟩
def senF (S:Bo.Sr)(lo hi:List Nat)(rc:Nat→Nat→Bool)(l:List Sp)(i j:Nat):Bool:=belS S lo hi rc (l.getD i nSp) (l.getD j nSp)
theorem Zg4 {S:Bo.Sr}{lo hi:List Nat}{rc:Nat→Nat→Bool}{l:List Sp}{i j:Nat}(hi':i < l.length)(hj:j < l.length):senF S lo hi rc l i j=belS S lo hi rc l[i] l[j]:=by
 unfold senF
 rw[List.getD_eq_getElem?_getD,List.getD_eq_getElem?_getD,List.getElem?_eq_getElem hi',List.getElem?_eq_getElem hj]
 rfl
theorem Zlj {S:Bo.Sr}{lo hi:List Nat}{rc:Nat→Nat→Bool}{l:List Sp}:sqL l.length (senF S lo hi rc l)=l.map fun p=>l.map (belS S lo hi rc p):=by
 apply List.ext_getElem (by simp[sqL])
 intro i h1 h2
 have hi':i < l.length:=by simpa [sqL] using h1
 rw[YO,List.getElem_map]
 apply List.ext_getElem (by simp)
 intro j g1 g2
 have hj:j < l.length:=by simpa using g1
 rw[List.getElem_map,List.getElem_map,List.getElem_range,Zg4 hi' hj]
def Made (S:Bo.Sr)(lo hi:List Nat)(rc:Nat→Nat→Bool)(l:List Sp)(w0 w:World)(A1:Option Addr)(n1 c1:Nat)(A2:Option Addr)(n2 c2:Nat)(A3:Option Addr)(n3 c3:Nat)(A4:Option Addr)(n4 c4:Nat):Prop:=
 (l= []∧A1=none∧n1=0∧c1=0∧A2=none∧n2=0∧c2=0∧A3=none∧n3=0∧c3=0∧A4=none∧n4=0∧c4=0)∨
  ∃g1 g2 g3 r,A2=some ⟨g1,0,none⟩∧n2=n1∧c2=n1∧A3=some ⟨g2,0,none⟩∧n3=n1∧c3=n1∧A4=some ⟨g3,0,none⟩∧n4=n1∧c4=n1∧
   Rs spc 5 w w.heap.size A1 n1 c1 l∧Bo.NmAt w g1 (l.map (lowS S lo))∧Bo.NmAt w g2 (l.map (V5 S hi))∧RwAt w0 w g3 r n1 (senF S lo hi rc l) n1 (n1*n1)∧w0.heap.size≤g1∧w0.heap.size≤g2∧g1≠g2∧n1≤256
theorem Made.at' {S:Bo.Sr}{lo hi:List Nat}{rc:Nat→Nat→Bool}{l:List Sp}{w0 w:World}{A1:Option Addr}{n1 c1:Nat}{A2:Option Addr}{n2 c2:Nat}{A3:Option Addr}{n3 c3:Nat}{A4:Option Addr}{n4 c4:Nat}(h:Made S lo hi rc l w0 w A1 n1 c1 A2 n2 c2 A3 n3 c3 A4 n4 c4)(hz: ∀p∈l,U64 p.z)(h1: ∀p∈l,lowS S lo p < 18446744073709551616)(h2: ∀p∈l,V5 S hi p < 18446744073709551616):Zx w (senS S lo hi rc l) A1 n1 c1 A2 n2 c2 A3 n3 c3 A4 n4 c4:=by
 rcases h with⟨rfl,rfl,rfl,rfl,rfl,rfl,rfl,rfl,rfl,rfl,rfl,rfl,rfl⟩|⟨g1,g2,g3,r,rfl,rfl,rfl,rfl,rfl,rfl,rfl,rfl,rfl,hr,hl,hh,hw,-,-,-,hn⟩
 ·exact Zx.none w
 ·(
 have hlen:=hr.len
 refine⟨hr,La.Rf hl (by show(l.map _).length=_;rw[List.length_map];exact hlen) (by omega),La.Rf hh (by show(l.map _).length=_;rw[List.length_map];exact hlen) (by omega),?_,hz,?_,?_⟩
 ·(
 have:=hw.rows hn
 rw[← hlen,Zlj] at this
 show Ve w w.heap.size _ _ _ (l.map fun p=>l.map (belS S lo hi rc p))
 rw[← hlen]
 exact this)
 ·intro x hx
  obtain⟨p,hp,rfl⟩:=List.mem_map.1 hx
  exact h1 p hp
 ·intro x hx
  obtain⟨p,hp,rfl⟩:=List.mem_map.1 hx
  exact h2 p hp)
def set4 (w:World)(g:Nat)(a b c d:Value):World:=(((w.setCell ⟨g,0,none⟩ a).setCell ⟨g,1,none⟩ b).setCell ⟨g,2,none⟩ c).setCell ⟨g,3,none⟩ d
theorem Vs {w:World}{g T:Nat}{x0 x1 x2 x3:Value}(h:w.heap[g]?=some (.cells #[x0,x1,x2,x3] T (0,0)))(a b c d:Value):(set4 w g a b c d).heap[g]?=some (.cells #[a,b,c,d] T (0,0)):=by
 unfold set4
 exact Zm (Zm (Zm (Zm h a) b) c) d
theorem Zw {w:World}{g k:Nat}(h:k≠g)(a b c d:Value):(set4 w g a b c d).heap[k]?=w.heap[k]?:=by
 unfold set4
 exact(Below.heap_setCell _ _ _ k h).trans ((Below.heap_setCell _ _ _ k h).trans ((Below.heap_setCell _ _ _ k h).trans (Below.heap_setCell _ _ _ k h)))
theorem ZL {B:Nat}{w w':World}{g:Nat}(h:Below B w w')(hg:B≤g)(a b c d:Value):Below B w (set4 w' g a b c d):=
 Zp (Zp (Zp (Zp h hg _) hg _) hg _) hg _
theorem ZbI (l:List Sp)(A:Option Addr)(n c:Nat)(S:Bo.Sr)(q:Nat)(lo hi:List Nat)(rc:Nat→Nat→Bool)(v:Value)(A1:Option Addr)(n1 c1:Nat)(A2:Option Addr)(n2 c2:Nat)(A3:Option Addr)(n3 c3:Nat)(w:World)(hs:Ut w S q lo hi rc v A1 n1 c1 A2 n2 c2 A3 n3 c3)(h:Rs spc 5 w w.heap.size A n c l)(hz: ∀p∈l,U64 p.z)(hm: ∀p∈l,okT q p.v p.z.toNat)(hn:n≤256):
  Calls Tryz.prog 46 #[slvV v A1 n1 c1 A2 n2 c2 A3 n3 c3,.slice A n c] w fun e w'=> ∃B1 m1 d1 B2 m2 d2 B3 m3 d3 B4 m4 d4,e= .returned (senV B1 m1 d1 B2 m2 d2 B3 m3 d3 B4 m4 d4)∧Made S lo hi rc l w w' B1 m1 d1 B2 m2 d2 B3 m3 d3 B4 m4 d4∧(l≠ []→B1=A∧m1=n∧d1=c)∧Below w.heap.size w w':=by
 have hlen:=h.len
 have hsv:=hs.s
 obtain⟨x,hx⟩: ∃x,w.alloc (.cells #[v,.slice A1 n1 c1,.slice A2 n2 c2,.slice A3 n3 c3] 100)=x:=⟨_,rfl⟩
 obtain⟨y,hy⟩: ∃y,x.alloc (.cells #[.slice A n c] 25)=y:=⟨_,rfl⟩
 obtain⟨u,hu⟩: ∃u,y.alloc (.cells #[.slice none 0 0,.slice none 0 0,.slice none 0 0,.slice none 0 0] 28)=u:=⟨_,rfl⟩
 have b0:Below w.heap.size w x:=hx▸bA
 have sx:x.heap.size=w.heap.size+1:=by rw[← hx,World.size_alloc]
 have b1:Below x.heap.size x y:=hy▸bA
 have sy:y.heap.size=w.heap.size+1+1:=by rw[← hy,World.size_alloc,sx]
 have b2:Below y.heap.size y u:=hu▸bA
 have k0:u.heap[w.heap.size]?=some (.cells #[v,.slice A1 n1 c1,.slice A2 n2 c2,.slice A3 n3 c3] 100 (0,0)):=(b2.block _ (by rw[sy];omega)).trans ((b1.block _ (by rw[sx];omega)).trans (hx▸heap_alloc_new w _))
 have k1:u.heap[w.heap.size+1]?=some (.cells #[.slice A n c] 25 (0,0)):=(b2.block _ (by rw[sy];omega)).trans (by rw[← sx, ← hy];exact heap_alloc_new x _)
 have k2:u.heap[w.heap.size+1+1]?=some (.cells #[.slice none 0 0,.slice none 0 0,.slice none 0 0,.slice none 0 0] 28 (0,0)):=by rw[← sy, ← hu];exact heap_alloc_new y _
 have hb:Below w.heap.size w u:=b0.trans ((b1.trans (b2.mono b1.size)).mono b0.size)
 have hix:Ix u (w.heap.size+1) w.heap.size A n c v A1 n1 c1 A2 n2 c2 A3 n3 c3:=⟨(Zb (i:=0) k1).trans rfl,(Zb (i:=0) k0).trans rfl,(Zb (i:=1) k0).trans rfl,(Zb (i:=2) k0).trans rfl,(Zb (i:=3) k0).trans rfl⟩
 have o0:=(Zb (i:=0) k2).trans rfl
 have o1:=(Zb (i:=1) k2).trans rfl
 have o2:=(Zb (i:=2) k2).trans rfl
 have o3:=(Zb (i:=3) k2).trans rfl
 have ho:u.heap[w.heap.size+1+1]?=some (.cells #[.slice none 0 0,.slice none 0 0,.slice none 0 0,.slice none 0 0] 28 (0,0)):=k2
 clear k0 k1 k2 b0 b1 b2 sx sy
 subst hx hy
 by_cases hn0:n=0
 ·(
 have hl0:l= []:=List.eq_nil_of_length_eq_zero (by omega)
 subst hl0 hn0
 have hz0:((0:Nat):Int)=0:=rfl
 have z0:u.frozen? ⟨w.heap.size+1+1,0,none⟩=false:=Zc ho
 have z1:u.frozen? ⟨w.heap.size+1+1,1,none⟩=false:=Zc ho
 have z2:u.frozen? ⟨w.heap.size+1+1,2,none⟩=false:=Zc ho
 have z3:u.frozen? ⟨w.heap.size+1+1,3,none⟩=false:=Zc ho
 have HB:=Hd hb
 have c0:=hix.c0
 clear hs hm hz h hb hix
 unfold slvV
 rcases hsv with⟨pa,rfl,-⟩|⟨pa,rfl,-⟩
 all_goals(
 go_enter Tryz.func46,Tryz.ntmps46
 go_wp2_with fail
 refine bodyPost_ret (v:=senV none 0 0 none 0 0 none 0 0 none 0 0) ?_ rfl ⟨none,0,0,none,0,0,none,0,0,none,0,0,rfl,.inl ⟨rfl,rfl,rfl,rfl,rfl,rfl,rfl,rfl,rfl,rfl,rfl,rfl,rfl⟩,(fun h=>absurd rfl h),?_⟩
 ·exact results_cell_row (P:=Tryz.prog) rfl _ _ (w.heap.size+1+1) 28 _ (0,0) _ rfl (Vs ho _ _ _ _) Tryz.underlying28 rfl rfl
 ·exact ZL HB.out (by omega) _ _ _ _))
 ·(
 have hne:((n:Int)==0)=false:=by rw[beq_eq_false_iff_ne];omega
 have c0:=hix.c0
 have HIX:=Hd hix
 have HS:Hid (∀W,Below w.heap.size w W→Ut W S q lo hi rc v A1 n1 c1 A2 n2 c2 A3 n3 c3):=Hd fun W hW=>hs.keep hW
 have HR:Hid (∀W,Below w.heap.size w W→Rs spc 5 W W.heap.size A n c l):=Hd fun W hW=>h.at_size lR hW
 have HLOW:Hid (∀W,Below w.heap.size w W→Calls Tryz.prog 80 #[.slice A n c,.int .u8 1,.func (.method "Bottom") #[v] #[],.func (.func 81) #[slvV v A1 n1 c1 A2 n2 c2 A3 n3 c3] #[]] W fun e w'=> ∃g,e= .returned (.slice (some ⟨g,0,none⟩) n n)∧W.heap.size≤g∧Bo.NmAt w' g (l.map (lowS S lo))∧Below W.heap.size W w'):=Hd fun W hW=>Zio l A n c S q lo hi rc v A1 n1 c1 A2 n2 c2 A3 n3 c3 W (HS.out W hW) (HR.out W hW) hz hm hn
 have HHIGH:Hid (∀W,Below w.heap.size w W→Calls Tryz.prog 80 #[.slice A n c,.int .u8 0,.func (.method "Top") #[v] #[],.func (.func 82) #[slvV v A1 n1 c1 A2 n2 c2 A3 n3 c3] #[]] W fun e w'=> ∃g,e= .returned (.slice (some ⟨g,0,none⟩) n n)∧W.heap.size≤g∧Bo.NmAt w' g (l.map (V5 S hi))∧Below W.heap.size W w'):=Hd fun W hW=>Zgl l A n c S q lo hi rc v A1 n1 c1 A2 n2 c2 A3 n3 c3 W (HS.out W hW) (HR.out W hW) hz hm hn
 have HROWS:Hid (∀W,Below u.heap.size u W→Calls Tryz.prog 83 #[.int .i64 (n:Int),.func (.func 78) #[] #[.pointer (some ⟨w.heap.size+1,0,none⟩),.pointer (some ⟨w.heap.size,0,none⟩)]] W fun e w'=> ∃g r,e= .returned (.slice (some ⟨g,0,none⟩) n n)∧RwAt W w' g r n (senF S lo hi rc l) n (n*n)):=Hd fun W hW=>
  ZhA n (w.heap.size+1) w.heap.size (senF S lo hi rc l) W hn (by omega) fun V hV i j hi' hj'=>
   ZlQ i j (w.heap.size+1) w.heap.size l A n c S q lo hi rc v A1 n1 c1 A2 n2 c2 A3 n3 c3 V (HIX.out.keep (hW.trans (hV.mono hW.size))) (HS.out V (hb.trans ((hW.trans (hV.mono hW.size)).mono hb.size))) (HR.out V (hb.trans ((hW.trans (hV.mono hW.size)).mono hb.size))) hz hm (by omega) (by omega) _ (Zg4 (by omega) (by omega)).symm
 have HB:=Hd hb
 have HO:=Hd ho
 have HOLT:=Hd (Zh ho)
 have HU:=Hd (Below.refl u.heap.size u)
 have HN:=Hd hn
 clear hs hm hz h hb hix ho hn hlen o0 o1 o2 o3 hn0 HS
 unfold slvV at HLOW HHIGH ⊢
 rcases hsv with⟨pa,rfl,-⟩|⟨pa,rfl,-⟩
 all_goals(
 go_enter Tryz.func46,Tryz.ntmps46
 go_wp2_with fail
 clear hu
 refine wro [0,1,2,3,4,5,6,7,9,10,11,12,13,14,15,17,18,19,8,16,20,21,22] [8,16,20,22] 22 (fun w'=>Ix w' (w.heap.size+1) w.heap.size A n c _ A1 n1 c1 A2 n2 c2 A3 n3 c3) (by kernel_rfl) (fun _ _ _ _ _ h=>h) (HIX.out.keep (Below.refl _ _).drew) ?_
 simp only[steps,sE,sD]
 repeat((first|refine Zf rfl ?_|(refine Zd (v:= ?_) rfl rfl ?_ ?_;rotate_left;(focus(rintro w' ⟨x0,x1,x2,x3,x4⟩;go_simp;try with_reducible rfl))));simp only[Act.put,sA,sB,sC])
 have HB1:=Hd HB.out.drew
 have HU1:=Hd HU.out.drew
 generalize World.drew u=w1 at*
 clear HB HU
 refine Ze rfl rfl (fun K hK=> ?_)
 go_simp
 refine(HLOW.out _ HB1.out).mono ?_
 rintro e w2 ⟨g1,rfl,hg1,hl1,hv⟩
 have HB2:=Hd (HB1.out.trans (hv.mono HB1.out.size))
 have HU2:=Hd (HU1.out.trans (hv.mono HU1.out.size))
 have HL2:=Hd hl1
 have HG1:Hid (u.heap.size≤g1):=Hd (Nat.le_trans HU1.out.size hg1)
 clear hv hl1 hg1 HB1 HU1 HLOW
 refine hK.out _ _ (fun _=>HIX.out.keep HU2.out) ?_
 clear hK K
 try simp only[Act.put,sA,sB,sC]
 repeat((first|refine Zf rfl ?_|(refine Zd (v:= ?_) rfl rfl ?_ ?_;rotate_left;(focus(rintro w' ⟨x0,x1,x2,x3,x4⟩;go_simp;try with_reducible rfl))));simp only[Act.put,sA,sB,sC])
 refine Ze rfl rfl (fun K hK=> ?_)
 go_simp
 refine(HHIGH.out _ HB2.out).mono ?_
 rintro e w3 ⟨g2,rfl,hg2,hl2,hv⟩
 have HB3:=Hd (HB2.out.trans (hv.mono HB2.out.size))
 have HU3:=Hd (HU2.out.trans (hv.mono HU2.out.size))
 have HL3:=Hd (HL2.out.keep hv)
 have HH3:=Hd hl2
 have HG2:Hid (u.heap.size≤g2∧g1≠g2):=Hd ⟨Nat.le_trans HU2.out.size hg2,fun e=>by have:=Zh HL2.out;omega⟩
 clear hv hl2 hg2 HB2 HU2 HHIGH HL2
 refine hK.out _ _ (fun _=>HIX.out.keep HU3.out) ?_
 clear hK K
 try simp only[Act.put,sA,sB,sC]
 repeat((first|refine Zf rfl ?_|(refine Zd (v:= ?_) rfl rfl ?_ ?_;rotate_left;(focus(rintro w' ⟨x0,x1,x2,x3,x4⟩;go_simp;try with_reducible rfl))));simp only[Act.put,sA,sB,sC])
 refine Ze rfl rfl (fun K hK=> ?_)
 go_simp
 refine(HROWS.out _ HU3.out).mono ?_
 rintro e w4 ⟨g3,r,rfl,hrw⟩
 have hv:=hrw.bel
 have HB4:=Hd (HB3.out.trans (hv.mono HB3.out.size))
 have HU4:=Hd (HU3.out.trans (hv.mono HU3.out.size))
 have HL4:=Hd (HL3.out.keep hv)
 have HH4:=Hd (HH3.out.keep hv)
 have HRW:=Hd (hrw.since (HB3.out))
 have HUR:Hid (u.heap.size≤g3∧u.heap.size≤r):=Hd ⟨Nat.le_trans HU3.out.size hrw.gb,Nat.le_trans HU3.out.size hrw.rb⟩
 clear hv hrw HB3 HU3 HROWS HL3 HH3
 refine hK.out _ _ (fun _=>HIX.out.keep HU4.out) ?_
 clear hK K
 try simp only[Act.put,sA,sB,sC]
 repeat((first|refine Zf rfl ?_|(refine Zd (v:= ?_) rfl rfl ?_ ?_;rotate_left;(focus(rintro w' ⟨x0,x1,x2,x3,x4⟩;go_simp;try with_reducible rfl))));simp only[Act.put,sA,sB,sC])
 have ho4:=(HU4.out.block _ HOLT.out).trans HO.out
 have o0:=(Zb (i:=0) ho4).trans rfl
 have o1:=(Zb (i:=1) ho4).trans rfl
 have o2:=(Zb (i:=2) ho4).trans rfl
 have o3:=(Zb (i:=3) ho4).trans rfl
 have z0:w4.frozen? ⟨w.heap.size+1+1,0,none⟩=false:=Zc ho4
 have z1:w4.frozen? ⟨w.heap.size+1+1,1,none⟩=false:=Zc ho4
 have z2:w4.frozen? ⟨w.heap.size+1+1,2,none⟩=false:=Zc ho4
 have z3:w4.frozen? ⟨w.heap.size+1+1,3,none⟩=false:=Zc ho4
 clear ho4
 refine Ze rfl rfl (fun K hK=> ?_)
 go_simp
 refine hK.out _ _ (fun h=>absurd rfl h) ?_
 clear hK K
 try simp only[Act.put,sA,sB,sC]
 refine Zg ?_
 go_wp2_with fail
 refine bodyPost_ret (v:=senV A n c (some ⟨g1,0,none⟩) n n (some ⟨g2,0,none⟩) n n (some ⟨g3,0,none⟩) n n) ?_ rfl ?_
 ·exact results_cell_row (P:=Tryz.prog) rfl _ _ (w.heap.size+1+1) 28 _ (0,0) _ rfl (Vs ((HU4.out.block _ HOLT.out).trans HO.out) _ _ _ _) Tryz.underlying28 rfl rfl
 ·have hlt:=HOLT.out
  have h1:=HG1.out
  have h2:=HG2.out
  have h3:=HUR.out
  have hbf:Below w.heap.size w (set4 w4 (w.heap.size+1+1) (.slice A n c) (.slice (some ⟨g1,0,none⟩) n n) (.slice (some ⟨g2,0,none⟩) n n) (.slice (some ⟨g3,0,none⟩) n n)):=ZL HB4.out (by omega) _ _ _ _
  refine⟨A,n,c,_,_,_,_,_,_,_,_,_,rfl,.inr ⟨g1,g2,g3,r,rfl,rfl,rfl,rfl,rfl,rfl,rfl,rfl,rfl,HR.out _ hbf,(Zw (by omega) _ _ _ _).trans HL4.out,(Zw (by omega) _ _ _ _).trans HH4.out,⟨(Zw (by omega) _ _ _ _).trans HRW.out.hd,(Zw (by omega) _ _ _ _).trans HRW.out.rm,HRW.out.gb,HRW.out.rb,HRW.out.ne,hbf⟩,by omega,by omega,h2.2,HN.out⟩,fun _=>⟨rfl,rfl,rfl⟩,hbf⟩))
theorem Zfm (g:Nat)(a b:Int)(w:World)(h0:w.cell? ⟨g,0,none⟩=some (.int .i64 a))(h1:w.cell? ⟨g,1,none⟩=some (.int .i64 b)):
  Calls Tryz.prog 44 #[.slice (some ⟨g,0,none⟩) 2 2] w fun e w'=>e= .returned (.int .i64 (orE a b))∧w=w':=by
 have hall: ∀i:Nat,i < 2→w.cell? ⟨g,i,none⟩=some (.int .i64 ([a,b].getD i 0)):=fun i hi=>by(
 have:i=0∨i=1:=by omega
 rcases this with rfl|rfl
 ·exact h0
 ·exact h1)
 have HA:=Hd hall
 have HF:Hid (∀i:Nat,i < 2→(∀j,j < i→ [a,b].getD j 0=0)→ [a,b].getD i 0≠0→orE a b= [a,b].getD i 0):=Hd fun i hi hz hn=>by(
 have:i=0∨i=1:=by omega
 rcases this with rfl|rfl
 ·exact if_neg hn
 ·have z0:=hz 0 (by decide)
  replace z0:a=0:=z0
  subst z0
  exact if_pos rfl)
 have HE:Hid ((∀j,j < 2→ [a,b].getD j 0=0)→orE a b=0):=Hd fun hz=>by(
 have z0:=hz 0 (by decide)
 have z1:=hz 1 (by decide)
 replace z0:a=0:=z0
 replace z1:b=0:=z1
 subst z0 z1
 rfl)
 generalize orE a b=r at*
 generalize [a,b]=L at*
 clear h0 h1 hall
 go_enter Tryz.func44,Tryz.ntmps44
 go_wp2
 go_loopw [8] (fun v8 wr=> ∃i:Nat,v8= .int .i64 (i:Int)∧i≤2∧(∀j,j < i→L.getD j 0=0)∧w=wr) (fun v8 _=>2 - (intOf v8).toNat)
 case atStart=>exact⟨0,rfl,by omega,fun j h=>by omega,rfl⟩
 case round=>(
 obtain⟨i,rfl,hi,hz,rfl⟩:=hrel
 have HZ:=Hd hz
 clear hz
 by_cases hlt:i < 2
 ·(
 have hc:=HA.out i hlt
 have HS:Hid (L.getD i 0=0→ ∀j,j < i+1→L.getD j 0=0):=Hd fun e j hj=>by(
 by_cases hji:j < i
 ·exact HZ.out j hji
 ·obtain rfl:j=i:=by omega
  exact e)
 have HN:=Hd (HF.out i hlt HZ.out)
 have HLT:=Hd hlt
 generalize L.getD i 0=q at*
 clear hi
 by_cases hq:q=0
 ·(
 subst hq
 go_wp2_with fail
 go_roundw
 case rel=>exact⟨i+1,by have:=HLT.out;go_num,by have:=HLT.out;omega,HS.out rfl,by trivial⟩
 case measure=>(
 have:=HLT.out
 simp[intOf]
 omega))
 ·(
 have hqq:(q !=0)=true:=by simpa using hq
 have HR:=Hd (HN.out hq)
 clear HN HS
 go_wp2_with fail
 go_ret
 exact⟨by rw[HR.out];rfl,rfl⟩))
 ·(
 obtain rfl:i=2:=by omega
 have HR:=Hd (HE.out HZ.out)
 clear hlt hi
 go_wp2
 go_ret
 exact⟨by rw[HR.out];rfl,rfl⟩))
theorem Rd.off {α:Type}{enc:α→Value}{w w':World}{A:Option Addr}{n c g:Nat}{l:List α}(h:Rd enc w w.heap.size A n c l)(hg: ∀o v,w.cell? ⟨g,o,none⟩=some v→ ∀x,v≠enc x)(hk: ∀k,k < w.heap.size→k≠g→w'.heap[k]?=w.heap[k]?)(hs:w.heap.size≤w'.heap.size):Rd enc w' w'.heap.size A n c l:=by
 refine⟨h.len,h.cap,h.top,h.none0,fun h0=> ?_⟩
 obtain⟨b,o,e,hb,hc⟩:=h.spot h0
 have hne:b≠g:=by(
 rintro rfl
 have h1:0 < l.length:=by rw[h.len];exact h0
 exact hg _ _ (hc 0 h1) _ rfl)
 exact⟨b,o,e,Nat.lt_of_lt_of_le hb hs,fun j hj=>(World.cell?_of_block (hk b hb hne)).trans (hc j hj)⟩
theorem results_cell_tmp {P:Program}{fn:Func}{p q:Tmp}{ty:TypeId}(h:fn.results= #[.cell p ty,.tmp q])(tmps:Array Value)(w:World)(g:Nat)(t:TypeId)(cs:Array Value)(fr:Nat×Nat)(d:TypeDesc)
  (hp:tmps.getD p undef= .pointer (some ⟨g,0,none⟩)) (hg:w.heap[g]?=some (.cells cs t fr))
  (hu:P.underlying ty=some d) (hd:(match d with| .struct _| .array _ _=>true|_=>false)=true) (hi:(P.info? ty).map (·.size)=some cs.size) (v:Value) (hv:tmps.getD q undef=v):
  (results fn tmps).run P w= .ok (.tuple #[.agg cs,v]) w:=by
 have hp':tmps[p]?.getD undef= .pointer (some ⟨g,0,none⟩):=by simpa using hp
 have hv':tmps[q]?.getD undef=v:=by simpa using hv
 simp[results,h,hp',hv',asAddr,run_loadVar_row w g t ty cs fr d hg hu hd hi]
def Qg (S:Bo.Sr)(k:Int)(l:List Bo.Bd):Prop:= ∃q:Nat,k=(q:Int)∧ ∀u,Bo.Qk S q u→Bo.Yu S u l=false
theorem ZdX (x:Int):orE x 0=x:=by unfold orE;split <;> simp_all
theorem Rq (v:Value)(k:Int)(A:Option Addr)(n c:Nat)(l:List Bo.Bd)(S:Bo.Sr)(w:World)(hS:S.Ok)(hs:Srt3 w v S)(h:Rs Bo.bdc 4 w w.heap.size A n c l)(hf: ∀b∈l,b.Fit)(hc:Bo.chkS S k l=0):
  Calls Tryz.prog 43 #[v,.int .i64 k,.slice A n c] w fun e w'=> ∃A1 n1 c1 A2 n2 c2 A3 n3 c3 x,e= .returned (.tuple #[slvV v A1 n1 c1 A2 n2 c2 A3 n3 c3,.int .i64 x])∧Below w.heap.size w w'∧
   ((x=10∧Qg S k l)∨(x=0∧ ∃(q:Nat) (lo hi:List Nat),k=(q:Int)∧Got S q l lo hi∧Ut w' S q lo hi (rcB q l) v A1 n1 c1 A2 n2 c2 A3 n3 c3)):=by
 have HS:=Hd hs
 have HH:Hid (∀W,Below w.heap.size w W→Rs Bo.bdc 4 W W.heap.size A n c l):=Hd fun W hW=>h.at_size lR hW
 have HOK:=Hd hS
 have HF:=Hd hf
 obtain⟨q0,hk,hq,hl,hm⟩:=Bo.ZiS hc
 have HR:Hid (∀W,Below w.heap.size w W→Calls Tryz.prog 74 #[.int .i64 k,.slice A n c] W (Re.OfE k l 0 W)):=Hd fun W hW=>by
  have hx:Re.ofE k l=0:=by rw[hk];exact Re.Zls hq hl fun b hb=>Zl9 (hm b hb)
  exact Re.ZeS k A n c l W 0 (h.at_size lR hW) hx
 have HC:=Hd hc
 have HK:=Hd hk
 have HQ:=Hd hq
 have HM:=Hd hm
 have hal:Below w.heap.size w (w.alloc (.cells #[.nilIface,.slice none 0 0,.slice none 0 0,.slice none 0 0] 100)):=bA
 have hsol:=Bo.ZeH v k A n c l S _ hS (hs.into.keep hal) (h.at_size lR hal) hf
 have hblk:=heap_alloc_new w (.cells #[.nilIface,.slice none 0 0,.slice none 0 0,.slice none 0 0] 100)
 obtain⟨u,hu⟩: ∃u,w.alloc (.cells #[.nilIface,.slice none 0 0,.slice none 0 0,.slice none 0 0] 100)=u:=⟨_,rfl⟩
 rw[hu] at hal hsol hblk
 have HB:=Hd hal
 have HO:=Hd hblk
 clear hS hs h hf hc hk hq hl hm hal hblk
 go_enter Tryz.func43,Tryz.ntmps43
 go_wp2_with fail
 clear hu
 refine hsol.mono ?_
 rintro e w1 ⟨A1,n1,c1,A2,n2,c2,x,lo,hi,hsv⟩
 obtain rfl:=hsv.ret
 have HB1:=Hd (HB.out.trans (hsv.kept.mono HB.out.size))
 have HU1:=Hd hsv.kept
 have HSV:=Hd hsv
 clear hsv hsol HB
 go_wp2_with fail
 refine(HR.out _ HB1.out).mono ?_
 rintro e w2 he
 rcases he with⟨h0,-⟩|⟨-,q,g,gs,hkq,rfl,hsq,hv⟩
 ·exact absurd rfl h0
 have HB2:=Hd (HB1.out.trans (hv.mono HB1.out.size))
 have HU2:=Hd (HU1.out.trans (hv.mono HU1.out.size))
 have HV:=Hd hv
 have HSQ:=Hd hsq
 have HKQ:=Hd hkq
 clear hv hsq hkq HB1 HU1 HR
 have hb3:Below w2.heap.size w2 (w2.alloc (.cells #[.int .i64 x,.int .i64 0] 51)):=bA
 have hn:=heap_alloc_new w2 (.cells #[.int .i64 x,.int .i64 0] 51)
 have hor:=Zfm w2.heap.size x 0 _ ((Zb (i:=0) hn).trans rfl) ((Zb (i:=1) hn).trans rfl)
 rw[ZdX] at hor
 have HB3:=Hd (HB2.out.trans (hb3.mono HB2.out.size))
 have HU3:=Hd (HU2.out.trans (hb3.mono HU2.out.size))
 have HV3:=Hd (HV.out.trans (hb3.mono HV.out.size))
 have HW3:=Hd hb3
 have ho3:=(HU3.out.block _ (Zh HO.out)).trans HO.out
 have o0:=(Zb (i:=0) ho3).trans rfl
 have o1:=(Zb (i:=1) ho3).trans rfl
 have o2:=(Zb (i:=2) ho3).trans rfl
 have o3:=(Zb (i:=3) ho3).trans rfl
 have z0:(w2.alloc (.cells #[.int .i64 x,.int .i64 0] 51)).frozen? ⟨w.heap.size,0,none⟩=false:=Zc ho3
 have z1:(w2.alloc (.cells #[.int .i64 x,.int .i64 0] 51)).frozen? ⟨w.heap.size,1,none⟩=false:=Zc ho3
 have z2:(w2.alloc (.cells #[.int .i64 x,.int .i64 0] 51)).frozen? ⟨w.heap.size,2,none⟩=false:=Zc ho3
 have z3:(w2.alloc (.cells #[.int .i64 x,.int .i64 0] 51)).frozen? ⟨w.heap.size,3,none⟩=false:=Zc ho3
 have HO3:=Hd ho3
 clear hb3 hn ho3 HU2 HB2
 have hv:=HS.out
 rcases hv with⟨pa,rfl,-⟩|⟨pa,rfl,-⟩
 ·(
 go_wp2_with fail
 refine hor.mono ?_
 rintro e w3 ⟨rfl,rfl⟩
 go_wp2_with fail
 refine bodyPost_ret (v:= .tuple #[slvV (.iface 74 (.pointer pa)) A1 n1 c1 A2 n2 c2 (some ⟨g,0,none⟩) q q,.int .i64 x]) ?_ rfl ?_
 ·exact results_cell_tmp (P:=Tryz.prog) rfl _ _ w.heap.size 100 _ (0,0) _ rfl (Vs HO3.out _ _ _ _) Tryz.underlying100 rfl rfl _ rfl
 ·(
 have hbf:=ZL (g:=w.heap.size) HB3.out lR (.iface 74 (.pointer pa)) (.slice A1 n1 c1) (.slice A2 n2 c2) (.slice (some ⟨g,0,none⟩) q q)
 refine⟨A1,n1,c1,A2,n2,c2,some ⟨g,0,none⟩,q,q,x,rfl,hbf,?_⟩
 have hsv:=HSV.out
 rcases hsv.ans with⟨e1,e2,-,-⟩|⟨q1,e1,-,e2,-,-,e3⟩|⟨q1,e1,-,e2,hlo,hhi,hho⟩
 ·exact absurd (e1.symm.trans HC.out) e2
 ·exact .inl ⟨e2,q1,e1,e3⟩
 ·(
 have hqq:q1=q:=by have:=HKQ.out;omega
 subst hqq
 have hqk:q1≤64:=by have:=HK.out;have:=HQ.out;omega
 have hqe:q0=q1:=by have:=HK.out;omega
 have hmm: ∀b∈l,Bo.mayB S q1 b=true:=hqe▸HM.out
 have hlt:w.heap.size < u.heap.size:=Zh HO.out
 have ho1:=(hsv.kept.block _ hlt).trans HO.out
 have hne: ∀o v,w1.cell? ⟨w.heap.size,o,none⟩=some v→ ∀x:Nat,v≠La.nm x:=fun o v hv x e=>by(
 rw[Zb ho1] at hv
 subst e
 have ho:o=0∨o=1∨o=2∨o=3:=by(
 have:=(Array.getElem?_eq_some_iff.1 hv).1
 simp at this
 omega)
 rcases ho with rfl|rfl|rfl|rfl <;> simp[La.nm] at hv)
 have hk: ∀k,k < w1.heap.size→k≠w.heap.size→(set4 (w2.alloc (.cells #[.int .i64 x,.int .i64 0] 51)) w.heap.size (.iface 74 (.pointer pa)) (.slice A1 n1 c1) (.slice A2 n2 c2) (.slice (some ⟨g,0,none⟩) q1 q1)).heap[k]?=w1.heap[k]?:=fun k h1 h2=>(Zw h2 _ _ _ _).trans (HV3.out.block k h1)
 have hsz:w1.heap.size≤(set4 (w2.alloc (.cells #[.int .i64 x,.int .i64 0] 51)) w.heap.size (.iface 74 (.pointer pa)) (.slice A1 n1 c1) (.slice A2 n2 c2) (.slice (some ⟨g,0,none⟩) q1 q1)).heap.size:=by(
 unfold set4
 rw[World.size_setCell,World.size_setCell,World.size_setCell,World.size_setCell]
 exact HV3.out.size)
 have hgw:=hsv.kept.size
 have far: ∀k,w1.heap.size≤k→ ∀o,w2.heap[k]?=some o→(set4 (w2.alloc (.cells #[.int .i64 x,.int .i64 0] 51)) w.heap.size (.iface 74 (.pointer pa)) (.slice A1 n1 c1) (.slice A2 n2 c2) (.slice (some ⟨g,0,none⟩) q1 q1)).heap[k]?=some o:=fun k hk o h=>(Zw (by omega) _ _ _ _).trans ((HW3.out.block k (Zh h)).trans h)
 have sq:=HSQ.out
 have hgot:Got S q1 l lo hi:=⟨HOK.out,hqk,hmm,hlo,hhi,hho⟩
 refine .inr ⟨e2,q1,lo,hi,e1,hgot,⟨HS.out.keep hbf,hsv.rlo.off hne hk hsz,hsv.rhi.off hne hk hsz,Zc3 ⟨far _ sq.gbase _ sq.blk,fun i hi=>far _ (sq.bases i hi) _ (sq.rows i hi),sq.gbase,sq.bases,sq.apart⟩ hqk,hlo.has.1,hhi.has.1,(Bo.Yx HOK.out hsv.ans).1,(Bo.Yx HOK.out hsv.ans).2⟩⟩)))
 ·(
 go_wp2_with fail
 refine hor.mono ?_
 rintro e w3 ⟨rfl,rfl⟩
 go_wp2_with fail
 refine bodyPost_ret (v:= .tuple #[slvV (.iface 77 (.pointer pa)) A1 n1 c1 A2 n2 c2 (some ⟨g,0,none⟩) q q,.int .i64 x]) ?_ rfl ?_
 ·exact results_cell_tmp (P:=Tryz.prog) rfl _ _ w.heap.size 100 _ (0,0) _ rfl (Vs HO3.out _ _ _ _) Tryz.underlying100 rfl rfl _ rfl
 ·(
 have hbf:=ZL (g:=w.heap.size) HB3.out lR (.iface 77 (.pointer pa)) (.slice A1 n1 c1) (.slice A2 n2 c2) (.slice (some ⟨g,0,none⟩) q q)
 refine⟨A1,n1,c1,A2,n2,c2,some ⟨g,0,none⟩,q,q,x,rfl,hbf,?_⟩
 have hsv:=HSV.out
 rcases hsv.ans with⟨e1,e2,-,-⟩|⟨q1,e1,-,e2,-,-,e3⟩|⟨q1,e1,-,e2,hlo,hhi,hho⟩
 ·exact absurd (e1.symm.trans HC.out) e2
 ·exact .inl ⟨e2,q1,e1,e3⟩
 ·(
 have hqq:q1=q:=by have:=HKQ.out;omega
 subst hqq
 have hqk:q1≤64:=by have:=HK.out;have:=HQ.out;omega
 have hqe:q0=q1:=by have:=HK.out;omega
 have hmm: ∀b∈l,Bo.mayB S q1 b=true:=hqe▸HM.out
 have hlt:w.heap.size < u.heap.size:=Zh HO.out
 have ho1:=(hsv.kept.block _ hlt).trans HO.out
 have hne: ∀o v,w1.cell? ⟨w.heap.size,o,none⟩=some v→ ∀x:Nat,v≠La.nm x:=fun o v hv x e=>by(
 rw[Zb ho1] at hv
 subst e
 have ho:o=0∨o=1∨o=2∨o=3:=by(
 have:=(Array.getElem?_eq_some_iff.1 hv).1
 simp at this
 omega)
 rcases ho with rfl|rfl|rfl|rfl <;> simp[La.nm] at hv)
 have hk: ∀k,k < w1.heap.size→k≠w.heap.size→(set4 (w2.alloc (.cells #[.int .i64 x,.int .i64 0] 51)) w.heap.size (.iface 77 (.pointer pa)) (.slice A1 n1 c1) (.slice A2 n2 c2) (.slice (some ⟨g,0,none⟩) q1 q1)).heap[k]?=w1.heap[k]?:=fun k h1 h2=>(Zw h2 _ _ _ _).trans (HV3.out.block k h1)
 have hsz:w1.heap.size≤(set4 (w2.alloc (.cells #[.int .i64 x,.int .i64 0] 51)) w.heap.size (.iface 77 (.pointer pa)) (.slice A1 n1 c1) (.slice A2 n2 c2) (.slice (some ⟨g,0,none⟩) q1 q1)).heap.size:=by(
 unfold set4
 rw[World.size_setCell,World.size_setCell,World.size_setCell,World.size_setCell]
 exact HV3.out.size)
 have hgw:=hsv.kept.size
 have far: ∀k,w1.heap.size≤k→ ∀o,w2.heap[k]?=some o→(set4 (w2.alloc (.cells #[.int .i64 x,.int .i64 0] 51)) w.heap.size (.iface 77 (.pointer pa)) (.slice A1 n1 c1) (.slice A2 n2 c2) (.slice (some ⟨g,0,none⟩) q1 q1)).heap[k]?=some o:=fun k hk o h=>(Zw (by omega) _ _ _ _).trans ((HW3.out.block k (Zh h)).trans h)
 have sq:=HSQ.out
 have hgot:Got S q1 l lo hi:=⟨HOK.out,hqk,hmm,hlo,hhi,hho⟩
 refine .inr ⟨e2,q1,lo,hi,e1,hgot,⟨HS.out.keep hbf,hsv.rlo.off hne hk hsz,hsv.rhi.off hne hk hsz,Zc3 ⟨far _ sq.gbase _ sq.blk,fun i hi=>far _ (sq.bases i hi) _ (sq.rows i hi),sq.gbase,sq.bases,sq.apart⟩ hqk,hlo.has.1,hhi.has.1,(Bo.Yx HOK.out hsv.ans).1,(Bo.Yx HOK.out hsv.ans).2⟩⟩)))
end Go.Proofs.YtmejhedegmjboaaGreat
