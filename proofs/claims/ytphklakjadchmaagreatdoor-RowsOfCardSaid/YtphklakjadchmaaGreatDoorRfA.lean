import Derived.Test.YtphklakjadchmaaGreatDoorRwF
namespace Go.Proofs.YtphklakjadchmaaGreatDoor.I
open Go.RowKit
structure Cl (W:World)(z:Sen)(n p0 o0 p1 o1 p2 o2 p4 o4:Nat):Prop where
 s: ∀i < n,W.cell? ⟨p0,o0+i*5+2,none⟩=some (.int .u8 (sd z i:Int))
 l: ∀i < n,W.cell? ⟨p1,o1+i,none⟩=some (.int .u64 (lw z i:Int))
 h: ∀i < n,W.cell? ⟨p2,o2+i,none⟩=some (.int .u64 (hg z i:Int))
 b: ∀i < n,∃g o y,W.cell? ⟨p4,o4+i,none⟩=some (.slice (some ⟨g,o,none⟩) n y)∧ ∀j < n,W.cell? ⟨g,o+j,none⟩=some (.bool (bb z i j))
theorem Cl.keep {W V:World}{z:Sen}{n p0 o0 p1 o1 p2 o2 p4 o4:Nat}(h:Cl W z n p0 o0 p1 o1 p2 o2 p4 o4)(hb:Below W.heap.size W V):Cl V z n p0 o0 p1 o1 p2 o2 p4 o4:=
 ⟨fun i hi=>cell_old (h.s i hi) hb,fun i hi=>cell_old (h.l i hi) hb,fun i hi=>cell_old (h.h i hi) hb,fun i hi=>by
  obtain⟨g,o,y,e1,e2⟩:=h.b i hi
  exact⟨g,o,y,cell_old e1 hb,fun j hj=>cell_old (e2 j hj) hb⟩⟩
theorem cl_of {w:World}{z:Sen}{A1:Option Addr}{n1 c1:Nat}{A2:Option Addr}{n2 c2:Nat}{A3:Option Addr}{n3 c3:Nat}{A4:Option Addr}{n4 c4:Nat}(h:SenAt w z A1 n1 c1 A2 n2 c2 A3 n3 c3 A4 n4 c4)(hw:wholeS z=true)(h0:0 < n1):
  ∃p0 o0 p1 o1 p2 o2 p4 o4,A1=some ⟨p0,o0,none⟩∧A2=some ⟨p1,o1,none⟩∧A3=some ⟨p2,o2,none⟩∧A4=some ⟨p4,o4,none⟩∧n2=n1∧n3=n1∧n4=n1∧z.p.length=n1∧(∀i,sd z i≤2)∧Cl w z n1 p0 o0 p1 o1 p2 o2 p4 o4:=by
 obtain⟨a1,a2,a3,a4,a5⟩:=whole_iff.1 hw
 have hl1:=h.rp.len
 have hl2:=h.rl.len
 have hl3:=h.rh.len
 have hl4:=h.rb.len
 have hsd: ∀i,sd z i≤2:=fun i=>by
  by_cases hi:i < z.p.length
  ·rw[sd_at hi];exact a4 _ (List.getElem_mem hi)
  ·unfold sd
   rw[List.getD_eq_getElem?_getD,List.getElem?_eq_none (by omega)]
   exact Nat.zero_le _
 obtain⟨p0,o0,e0,-⟩:=spot_at (k:=0) h.rp (by omega)
 obtain⟨p1,o1,e1,-⟩:=val_cell (i:=0) h.rl h.fl (by omega)
 obtain⟨p2,o2,e2,-⟩:=val_cell (i:=0) h.rh h.fh (by omega)
 obtain⟨p4,o4,-,-,-,e4,-,-⟩:=be_cell (i:=0) (j:=0) h hw (by omega) (by omega)
 subst e0 e1 e2 e4
 refine⟨p0,o0,p1,o1,p2,o2,p4,o4,rfl,rfl,rfl,rfl,by omega,by omega,by omega,by omega,hsd,fun i hi=> ?_,fun i hi=> ?_,fun i hi=> ?_,fun i hi=> ?_⟩
 ·obtain⟨b,o,e,-,-,-,hc,-,-⟩:=spot_at (k:=i) h.rp (by omega)
  injection e with e
  injection e with ea eb
  subst ea eb
  rw[sd_at (by omega)]
  exact hc
 ·obtain⟨b,o,e,hc,-⟩:=val_cell (i:=i) h.rl h.fl (by omega)
  injection e with e
  injection e with ea eb
  subst ea eb
  rw[lw_at (by omega)]
  exact hc
 ·obtain⟨b,o,e,hc,-⟩:=val_cell (i:=i) h.rh h.fh (by omega)
  injection e with e
  injection e with ea eb
  subst ea eb
  rw[hg_at (by omega)]
  exact hc
 ·obtain⟨g,o,y,hc,-⟩:=be_at (i:=i) (j:=0) h hw (by omega) (by omega)
  refine⟨g,o,y,hc,fun j hj=> ?_⟩
  obtain⟨g',o',y',hc',hb⟩:=be_at (i:=i) (j:=j) h hw (by omega) (by omega)
  rw[hc] at hc'
  injection hc' with e
  injection e with ea eb
  injection ea with ea
  injection ea with ea ec
  subst ea ec
  exact hb
def AlD (z:Sen)(i k:Nat):Prop:=i=k∨(okA z i=true∧okA z k=true∧Look z i k)
theorem ok_02 {z:Sen}{i:Nat}(h:sd z i≠2):okA z i=true:=by
 unfold okA
 rw[decide_eq_false h]
 rfl
theorem ok_2 {z:Sen}{i:Nat}(h:sd z i=2):okA z i=bb z i i:=by
 unfold okA
 rw[decide_eq_true h]
 rfl
theorem ald_side {z:Sen}{i k:Nat}(h:sd z i≠sd z k): ¬AlD z i k:=fun e=>by
 rcases e with e|e
 ·exact h (by rw[e])
 ·exact h e.2.2.1
theorem ald_low {z:Sen}{i k:Nat}(h1:sd z i≠1)(h:lw z i≠lw z k): ¬AlD z i k:=fun e=>by
 rcases e with e|e
 ·exact h (by rw[e])
 ·exact h (e.2.2.2.1 h1).1
theorem ald_hig {z:Sen}{i k:Nat}(h1:sd z i≠0)(h:hg z i≠hg z k): ¬AlD z i k:=fun e=>by
 rcases e with e|e
 ·exact h (by rw[e])
 ·exact h (e.2.2.2.2 h1).1
theorem ald_col {z:Sen}{i k m:Nat}(h1:sd z i≠1)(hm:m < z.p.length)(h:bb z m i≠bb z m k): ¬AlD z i k:=fun e=>by
 rcases e with e|e
 ·exact h (by rw[e])
 ·exact h ((e.2.2.2.1 h1).2 m hm)
theorem ald_row {z:Sen}{i k m:Nat}(h1:sd z i≠0)(hm:m < z.p.length)(h:bb z i m≠bb z k m): ¬AlD z i k:=fun e=>by
 rcases e with e|e
 ·exact h (by rw[e])
 ·exact h ((e.2.2.2.2 h1).2 m hm)
theorem ald_up {z:Sen}{i k:Nat}(h0:sd z i=0)(hs:sd z i=sd z k)(hl:lw z i=lw z k)(ha: ∀m < z.p.length,bb z m i=bb z m k):AlD z i k:=
 .inr ⟨ok_02 (by omega),ok_02 (by omega),hs,fun _=>⟨hl,ha⟩,fun h=>absurd h0 h⟩
theorem ald_down {z:Sen}{i k:Nat}(h0:sd z i=1)(hs:sd z i=sd z k)(hl:hg z i=hg z k)(ha: ∀m < z.p.length,bb z i m=bb z k m):AlD z i k:=
 .inr ⟨ok_02 (by omega),ok_02 (by omega),hs,fun h=>absurd h0 h,fun _=>⟨hl,ha⟩⟩
theorem ald_both {z:Sen}{i k:Nat}(h0:sd z i=2)(hs:sd z i=sd z k)(hne:i≠k)(hi:i < z.p.length)(hk:k < z.p.length)(ha: ∀m < z.p.length,bb z m i=bb z m k∧bb z i m=bb z k m){r:Bool}(hr:r=(decide (lw z i=lw z k) && (decide (hg z i=hg z k) && (bb z i k && bb z k i)))):r=true↔AlD z i k:=by
 rw[hr,Bool.and_eq_true,Bool.and_eq_true,Bool.and_eq_true,decide_eq_true_eq,decide_eq_true_eq]
 constructor
 ·intro⟨h1,h2,h3,h4⟩
  refine .inr ⟨?_,?_,hs,fun _=>⟨h1,fun m hm=>(ha m hm).1⟩,fun _=>⟨h2,fun m hm=>(ha m hm).2⟩⟩
  ·rw[ok_2 h0,(ha i hi).1];exact h3
  ·rw[ok_2 (by omega), ← (ha k hk).2];exact h3
 ·intro h
  rcases h with h|⟨o1,o2,l⟩
  ·exact absurd h hne
  ·rw[ok_2 h0] at o1
   rw[ok_2 (by omega)] at o2
   exact⟨(l.2.1 (by omega)).1,(l.2.2 (by omega)).1,by rw[← (ha i hi).1];exact o1,by rw[(ha k hk).1];exact o2⟩
end Go.Proofs.YtphklakjadchmaaGreatDoor.I
namespace Go.Proofs.YtphklakjadchmaaGreatDoor.I
open Go.RowKit
set_option maxRecDepth 100000 in
set_option maxHeartbeats 8000000 in
theorem alike_ref (z:Sen)(n c1 c2 c3 c4 p0 o0 p1 o1 p2 o2 p4 o4:Nat)(i k:Nat)(w:World)(h:Cl w z n p0 o0 p1 o1 p2 o2 p4 o4)(hL:z.p.length=n)(hsd: ∀i,sd z i≤2)(hn:n≤1000)(hi:i < n)(hk:k < n):
  Calls Tryz.prog 42 #[senV (some ⟨p0,o0,none⟩) n c1 (some ⟨p1,o1,none⟩) n c2 (some ⟨p2,o2,none⟩) n c3 (some ⟨p4,o4,none⟩) n c4,.int .i64 (i:Int),.int .i64 (k:Int)] w fun e w'=>(∃r:Bool,e= .returned (.bool r)∧(r=true↔AlD z i k))∧Below w.heap.size w w':=by
 have hz:=ZB.of (heap_alloc_new w (.cells #[.slice (some ⟨p0,o0,none⟩) n c1,.slice (some ⟨p1,o1,none⟩) n c2,.slice (some ⟨p2,o2,none⟩) n c3,.slice (some ⟨p4,o4,none⟩) n c4] 28))
 have hb:Below w.heap.size w (w.alloc (.cells #[.slice (some ⟨p0,o0,none⟩) n c1,.slice (some ⟨p1,o1,none⟩) n c2,.slice (some ⟨p2,o2,none⟩) n c3,.slice (some ⟨p4,o4,none⟩) n c4] 28)):=(Below.refl _ _).alloc (Nat.le_refl _) _
 have hcl:=h.keep hb
 have HL:=Lib.hid hL
 have HI:=Lib.hid hi
 have HK:=Lib.hid hk
 have HN:=Lib.hid hn
 have hs2:=hsd i
 have e1:=hcl.s i hi
 have e2:=hcl.s k hk
 obtain⟨s,hs⟩: ∃x,sd z i=x:=⟨_,rfl⟩
 obtain⟨t,ht⟩: ∃x,sd z k=x:=⟨_,rfl⟩
 rw[hs] at e1 hs2
 rw[ht] at e2
 have HS:=Lib.hid hs
 have HT:=Lib.hid ht
 have HB:=Lib.hid hb
 have HC:=Lib.hid hcl
 have hin:(i:Int) < (n:Int):=by omega
 have hkn:(k:Int) < (n:Int):=by omega
 have hi9:i≤1000:=by omega
 have hk9:k≤1000:=by omega
 clear hs ht hb hcl h hL hsd hn hi hk
 unfold senV
 go_enter Tryz.func42,Tryz.ntmps42
 go_wp2_with fail
 generalize w.alloc (.cells #[.slice (some ⟨p0,o0,none⟩) n c1,.slice (some ⟨p1,o1,none⟩) n c2,.slice (some ⟨p2,o2,none⟩) n c3,.slice (some ⟨p4,o4,none⟩) n c4] 28)=wa at*
 by_cases hst:s=t
 case neg=>
  have hne:((s:Int) !=(t:Int))=true:=by rw[bne_iff_ne];omega
  refine wp_region_ord [0,1,2,3,4,5,6,7,8,9,10,11,12] [] 13 (fun W=>ZB W w.heap.size (some ⟨p0,o0,none⟩) n c1 (some ⟨p1,o1,none⟩) n c2 (some ⟨p2,o2,none⟩) n c3 (some ⟨p4,o4,none⟩) n c4∧W.cell? ⟨p0,o0+i*5+2,none⟩=some (.int .u8 (s:Int))∧W.cell? ⟨p0,o0+k*5+2,none⟩=some (.int .u8 (t:Int))) (by kernel_rfl) (by kernel_rfl) (by kernel_rfl) (by kernel_rfl) (fun _ _ _ _ _ h=>h) ⟨hz.keep (Below.refl _ _).drew,cell_old e1 (Below.refl _ _).drew,cell_old e2 (Below.refl _ _).drew⟩ ?_
  simp only[steps,List.getElem?_cons_zero,List.getElem?_cons_succ]
  repeat(first
   |(refine ord_no rfl ?_;simp only[Act.put,List.setIfInBounds_toArray,List.set_cons_zero,List.set_cons_succ])
   |(refine ord_yes (v:= ?_) rfl rfl ?_ ?_;rotate_left;(focus(rintro w' ⟨⟨x0,x1,x2,x3⟩,y0,y1⟩;go_simp;try with_reducible rfl));simp only[Act.put,List.setIfInBounds_toArray,List.set_cons_zero,List.set_cons_succ]))
  refine ord_end ?_
  have HB2:=Lib.hid (HB.out.trans ((Below.refl wa.heap.size wa).drew.mono HB.out.size))
  generalize World.drew _=we at*
  go_wp2_with fail
  go_ret
  exact⟨⟨false,rfl,fun h=>absurd h (by decide),fun h=>absurd h (ald_side (by rw[HS.out,HT.out];exact hst))⟩,HB2.out⟩
 have hne:((s:Int) !=(t:Int))=false:=by rw[hst];simp
 have HST:Hid (sd z i=sd z k):=Lib.hid (by rw[HS.out,HT.out];exact hst)
 clear hst
 refine wp_region_ord [0,1,2,3,4,5,6,7,8,9,10,11,12] [] 13 (fun W=>ZB W w.heap.size (some ⟨p0,o0,none⟩) n c1 (some ⟨p1,o1,none⟩) n c2 (some ⟨p2,o2,none⟩) n c3 (some ⟨p4,o4,none⟩) n c4∧W.cell? ⟨p0,o0+i*5+2,none⟩=some (.int .u8 (s:Int))∧W.cell? ⟨p0,o0+k*5+2,none⟩=some (.int .u8 (t:Int))) (by kernel_rfl) (by kernel_rfl) (by kernel_rfl) (by kernel_rfl) (fun _ _ _ _ _ h=>h) ⟨hz.keep (Below.refl _ _).drew,cell_old e1 (Below.refl _ _).drew,cell_old e2 (Below.refl _ _).drew⟩ ?_
 simp only[steps,List.getElem?_cons_zero,List.getElem?_cons_succ]
 repeat(first
  |(refine ord_no rfl ?_;simp only[Act.put,List.setIfInBounds_toArray,List.set_cons_zero,List.set_cons_succ])
  |(refine ord_yes (v:= ?_) rfl rfl ?_ ?_;rotate_left;(focus(rintro w' ⟨⟨x0,x1,x2,x3⟩,y0,y1⟩;go_simp;try with_reducible rfl));simp only[Act.put,List.setIfInBounds_toArray,List.set_cons_zero,List.set_cons_succ]))
 refine ord_end ?_
 have hd1:Below wa.heap.size wa wa.drew:=(Below.refl _ _).drew
 have HB2:=Lib.hid (HB.out.trans (hd1.mono HB.out.size))
 have hcl:=HC.out.keep hd1
 replace hz:=hz.keep hd1
 replace e1:=cell_old e1 hd1
 clear hd1 hne e2 HC HB HT
 generalize World.drew _=wb at*
 have HZ:=Lib.hid hz
 have HC:=Lib.hid hcl
 have z0:=hz.p0
 clear hz hcl
 rcases side_is hs2 with hs3|hs3|hs3
 ·obtain⟨hx,h0⟩:=hs3
  have HX:Hid (sd z i=0):=Lib.hid (HS.out.trans hx)
  clear hx hs2
  have hz:=HZ.out
  have f1:=HC.out.l i HI.out
  have f2:=HC.out.l k HK.out
  obtain⟨u,hu⟩: ∃x,lw z i=x:=⟨_,rfl⟩
  obtain⟨v,hv⟩: ∃x,lw z k=x:=⟨_,rfl⟩
  rw[hu] at f1
  rw[hv] at f2
  have HU:=Lib.hid hu
  have HV:=Lib.hid hv
  clear hu hv
  go_wp2_with fail
  clear z0 e1
  by_cases huv:u=v
  case neg=>
   have hne:((u:Int) !=(v:Int))=true:=by rw[bne_iff_ne];omega
   refine wp_region_ord [0,1,2,3,4,5,6,7,8,9,10] [] 11 (fun W=>ZB W w.heap.size (some ⟨p0,o0,none⟩) n c1 (some ⟨p1,o1,none⟩) n c2 (some ⟨p2,o2,none⟩) n c3 (some ⟨p4,o4,none⟩) n c4∧W.cell? ⟨p1,o1+i,none⟩=some (.int .u64 (u:Int))∧W.cell? ⟨p1,o1+k,none⟩=some (.int .u64 (v:Int))) (by kernel_rfl) (by kernel_rfl) (by kernel_rfl) (by kernel_rfl) (fun _ _ _ _ _ h=>h) ⟨hz.keep (Below.refl _ _).drew,cell_old f1 (Below.refl _ _).drew,cell_old f2 (Below.refl _ _).drew⟩ ?_
   simp only[steps,List.getElem?_cons_zero,List.getElem?_cons_succ]
   repeat(first
    |(refine ord_no rfl ?_;simp only[Act.put,List.setIfInBounds_toArray,List.set_cons_zero,List.set_cons_succ])
    |(refine ord_yes (v:= ?_) rfl rfl ?_ ?_;rotate_left;(focus(rintro w' ⟨⟨x0,x1,x2,x3⟩,y0,y1⟩;go_simp;try with_reducible rfl));simp only[Act.put,List.setIfInBounds_toArray,List.set_cons_zero,List.set_cons_succ]))
   refine ord_end ?_
   have HB3:=Lib.hid (HB2.out.trans ((Below.refl wb.heap.size wb).drew.mono HB2.out.size))
   generalize World.drew _=we at*
   go_wp2_with fail
   go_ret
   exact⟨⟨false,rfl,fun h=>absurd h (by decide),fun h=>absurd h (ald_low (by rw[HX.out];decide) (by rw[HU.out,HV.out];exact huv))⟩,HB3.out⟩
  have hne:((u:Int) !=(v:Int))=false:=by rw[huv];simp
  have HUV:Hid (lw z i=lw z k):=Lib.hid (by rw[HU.out,HV.out];exact huv)
  clear huv HU HV
  refine wp_region_ord [0,1,2,3,4,5,6,7,8,9,10] [] 11 (fun W=>ZB W w.heap.size (some ⟨p0,o0,none⟩) n c1 (some ⟨p1,o1,none⟩) n c2 (some ⟨p2,o2,none⟩) n c3 (some ⟨p4,o4,none⟩) n c4∧W.cell? ⟨p1,o1+i,none⟩=some (.int .u64 (u:Int))∧W.cell? ⟨p1,o1+k,none⟩=some (.int .u64 (v:Int))) (by kernel_rfl) (by kernel_rfl) (by kernel_rfl) (by kernel_rfl) (fun _ _ _ _ _ h=>h) ⟨hz.keep (Below.refl _ _).drew,cell_old f1 (Below.refl _ _).drew,cell_old f2 (Below.refl _ _).drew⟩ ?_
  simp only[steps,List.getElem?_cons_zero,List.getElem?_cons_succ]
  repeat(first
   |(refine ord_no rfl ?_;simp only[Act.put,List.setIfInBounds_toArray,List.set_cons_zero,List.set_cons_succ])
   |(refine ord_yes (v:= ?_) rfl rfl ?_ ?_;rotate_left;(focus(rintro w' ⟨⟨x0,x1,x2,x3⟩,y0,y1⟩;go_simp;try with_reducible rfl));simp only[Act.put,List.setIfInBounds_toArray,List.set_cons_zero,List.set_cons_succ]))
  refine ord_end ?_
  have hd1:Below wb.heap.size wb wb.drew:=(Below.refl _ _).drew
  have HB3:=Lib.hid (HB2.out.trans (hd1.mono HB2.out.size))
  have HZ3:=Lib.hid (HZ.out.keep hd1)
  have HC3:=Lib.hid (HC.out.keep hd1)
  clear hd1 hne f1 f2 hz HB2 HZ HC
  generalize World.drew _=wc at*
  obtain⟨wo,rfl⟩: ∃wo,wo=wc:=⟨_,rfl⟩
  go_wp2_with fail
  go_loopw [7] (fun vm wr=> ∃m:Nat,vm= .int .i64 (m:Int)∧m≤n∧(∀j < m,bb z j i=bb z j k)∧Below wo.heap.size wo wr) (fun vm _=>n - (intOf vm).toNat)
  case atStart=>exact⟨0,rfl,Nat.zero_le _,(fun j hj=>absurd hj (Nat.not_lt_zero j)),Below.refl _ _⟩
  case round=>
   obtain⟨m,rfl,hm,hall,hbr⟩:=hrel
   have HALL:=Lib.hid hall
   have HBR:=Lib.hid hbr
   have hz:=HZ3.out.keep hbr
   have hcl:=HC3.out.keep hbr
   have z0:=hz.p0
   clear hall hbr
   by_cases hlt:m < n
   ·have HLT:=Lib.hid hlt
    have hmn:(m:Int) < (n:Int):=by omega
    have hm9:m≤1000:=by have:=HN.out;omega
    obtain⟨g,q,y,r1,hr⟩:=hcl.b m hlt
    have b1:=hr i HI.out
    have b2:=hr k HK.out
    clear hr hcl hlt hm
    obtain⟨xa,hxa⟩: ∃x,bb z m i=x:=⟨_,rfl⟩
    rw[hxa] at b1
    have Hxa:=Lib.hid hxa
    clear hxa
    obtain⟨xb,hxb⟩: ∃x,bb z m k=x:=⟨_,rfl⟩
    rw[hxb] at b2
    have Hxb:=Lib.hid hxb
    clear hxb
    go_wp2_with fail
    clear z0
    by_cases hab:xa=xb
    case neg=>
     have hne:(xa !=xb)=true:=by rw[bne_iff_ne];exact hab
     have HAB:=Lib.hid hab
     clear hab
     cases xa <;> cases xb <;> first|exact absurd rfl HAB.out|skip
     all_goals(
      clear hne
      refine wp_region_ord [0,1,2,3,4,5,6,7,8,9,10,11,12,13,14,15,16] [] 17 (fun W=>ZB W w.heap.size (some ⟨p0,o0,none⟩) n c1 (some ⟨p1,o1,none⟩) n c2 (some ⟨p2,o2,none⟩) n c3 (some ⟨p4,o4,none⟩) n c4∧W.cell? ⟨p4,o4+m,none⟩=some (.slice (some ⟨g,q,none⟩) n y)∧W.cell? ⟨g,q+i,none⟩=some (.bool _)∧W.cell? ⟨g,q+k,none⟩=some (.bool _)) (by kernel_rfl) (by kernel_rfl) (by kernel_rfl) (by kernel_rfl) (fun _ _ _ _ _ h=>h) ⟨hz.keep (Below.refl _ _).drew,cell_old r1 (Below.refl _ _).drew,cell_old b1 (Below.refl _ _).drew,cell_old b2 (Below.refl _ _).drew⟩ ?_
      simp only[steps,List.getElem?_cons_zero,List.getElem?_cons_succ]
      repeat(first
       |(refine ord_no rfl ?_;simp only[Act.put,List.setIfInBounds_toArray,List.set_cons_zero,List.set_cons_succ])
       |(refine ord_yes (v:= ?_) rfl rfl ?_ ?_;rotate_left;(focus(rintro w' ⟨⟨x0,x1,x2,x3⟩,y0,y1,y2⟩;go_simp;try with_reducible rfl));simp only[Act.put,List.setIfInBounds_toArray,List.set_cons_zero,List.set_cons_succ]))
      refine ord_end ?_
      have HB4:=Lib.hid (HB3.out.trans ((HBR.out.trans ((Below.refl wr.heap.size wr).drew.mono HBR.out.size)).mono HB3.out.size))
      generalize World.drew _=we at*
      go_wp2_with fail
      go_ret
      exact⟨⟨false,rfl,fun h=>absurd h (by decide),fun h=>absurd h (ald_col (m:=m) (by rw[HX.out];decide) (by have:=HL.out;have:=HLT.out;omega) (by rw[Hxa.out,Hxb.out];decide))⟩,HB4.out⟩)
    have HEQ:Hid (bb z m i=bb z m k):=Lib.hid (by rw[Hxa.out,Hxb.out];exact hab)
    subst hab
    cases xa
    all_goals(
     refine wp_region_ord [0,1,2,3,4,5,6,7,8,9,10,11,12,13,14,15,16] [] 17 (fun W=>ZB W w.heap.size (some ⟨p0,o0,none⟩) n c1 (some ⟨p1,o1,none⟩) n c2 (some ⟨p2,o2,none⟩) n c3 (some ⟨p4,o4,none⟩) n c4∧W.cell? ⟨p4,o4+m,none⟩=some (.slice (some ⟨g,q,none⟩) n y)∧W.cell? ⟨g,q+i,none⟩=some (.bool _)∧W.cell? ⟨g,q+k,none⟩=some (.bool _)) (by kernel_rfl) (by kernel_rfl) (by kernel_rfl) (by kernel_rfl) (fun _ _ _ _ _ h=>h) ⟨hz.keep (Below.refl _ _).drew,cell_old r1 (Below.refl _ _).drew,cell_old b1 (Below.refl _ _).drew,cell_old b2 (Below.refl _ _).drew⟩ ?_
     simp only[steps,List.getElem?_cons_zero,List.getElem?_cons_succ]
     repeat(first
      |(refine ord_no rfl ?_;simp only[Act.put,List.setIfInBounds_toArray,List.set_cons_zero,List.set_cons_succ])
      |(refine ord_yes (v:= ?_) rfl rfl ?_ ?_;rotate_left;(focus(rintro w' ⟨⟨x0,x1,x2,x3⟩,y0,y1,y2⟩;go_simp;try with_reducible rfl));simp only[Act.put,List.setIfInBounds_toArray,List.set_cons_zero,List.set_cons_succ]))
     refine ord_end ?_
     have HBR2:=Lib.hid (HBR.out.trans ((Below.refl wr.heap.size wr).drew.mono HBR.out.size))
     clear r1 b1 b2 hz HBR
     generalize World.drew _=we at*
     go_wp2_with fail
     go_roundw
     case rel=>exact⟨m+1,by go_num,HLT.out,(fun j hj=>by
      by_cases ej:j=m
      ·subst ej;exact HEQ.out
      ·exact HALL.out j (by omega)),HBR2.out⟩
     case measure=>
      have:=HLT.out
      simp[intOf]
      omega)
   ·obtain rfl:n=m:=by omega
    go_wp2_with fail
    go_ret
    exact⟨⟨true,rfl,fun _=>ald_up HX.out HST.out HUV.out (fun m hm=>HALL.out m (by rw[← HL.out];exact hm)),fun _=>rfl⟩,HB3.out.trans (HBR.out.mono HB3.out.size)⟩
 ·obtain⟨hx,h0,h1⟩:=hs3
  have HX:Hid (sd z i=1):=Lib.hid (HS.out.trans hx)
  clear hx hs2
  have hz:=HZ.out
  have f1:=HC.out.h i HI.out
  have f2:=HC.out.h k HK.out
  obtain⟨u,hu⟩: ∃x,hg z i=x:=⟨_,rfl⟩
  obtain⟨v,hv⟩: ∃x,hg z k=x:=⟨_,rfl⟩
  rw[hu] at f1
  rw[hv] at f2
  have HU:=Lib.hid hu
  have HV:=Lib.hid hv
  clear hu hv
  go_wp2_with fail
  clear z0 e1
  by_cases huv:u=v
  case neg=>
   have hne:((u:Int) !=(v:Int))=true:=by rw[bne_iff_ne];omega
   refine wp_region_ord [0,1,2,3,4,5,6,7,8,9,10] [] 11 (fun W=>ZB W w.heap.size (some ⟨p0,o0,none⟩) n c1 (some ⟨p1,o1,none⟩) n c2 (some ⟨p2,o2,none⟩) n c3 (some ⟨p4,o4,none⟩) n c4∧W.cell? ⟨p2,o2+i,none⟩=some (.int .u64 (u:Int))∧W.cell? ⟨p2,o2+k,none⟩=some (.int .u64 (v:Int))) (by kernel_rfl) (by kernel_rfl) (by kernel_rfl) (by kernel_rfl) (fun _ _ _ _ _ h=>h) ⟨hz.keep (Below.refl _ _).drew,cell_old f1 (Below.refl _ _).drew,cell_old f2 (Below.refl _ _).drew⟩ ?_
   simp only[steps,List.getElem?_cons_zero,List.getElem?_cons_succ]
   repeat(first
    |(refine ord_no rfl ?_;simp only[Act.put,List.setIfInBounds_toArray,List.set_cons_zero,List.set_cons_succ])
    |(refine ord_yes (v:= ?_) rfl rfl ?_ ?_;rotate_left;(focus(rintro w' ⟨⟨x0,x1,x2,x3⟩,y0,y1⟩;go_simp;try with_reducible rfl));simp only[Act.put,List.setIfInBounds_toArray,List.set_cons_zero,List.set_cons_succ]))
   refine ord_end ?_
   have HB3:=Lib.hid (HB2.out.trans ((Below.refl wb.heap.size wb).drew.mono HB2.out.size))
   generalize World.drew _=we at*
   go_wp2_with fail
   go_ret
   exact⟨⟨false,rfl,fun h=>absurd h (by decide),fun h=>absurd h (ald_hig (by rw[HX.out];decide) (by rw[HU.out,HV.out];exact huv))⟩,HB3.out⟩
  have hne:((u:Int) !=(v:Int))=false:=by rw[huv];simp
  have HUV:Hid (hg z i=hg z k):=Lib.hid (by rw[HU.out,HV.out];exact huv)
  clear huv HU HV
  refine wp_region_ord [0,1,2,3,4,5,6,7,8,9,10] [] 11 (fun W=>ZB W w.heap.size (some ⟨p0,o0,none⟩) n c1 (some ⟨p1,o1,none⟩) n c2 (some ⟨p2,o2,none⟩) n c3 (some ⟨p4,o4,none⟩) n c4∧W.cell? ⟨p2,o2+i,none⟩=some (.int .u64 (u:Int))∧W.cell? ⟨p2,o2+k,none⟩=some (.int .u64 (v:Int))) (by kernel_rfl) (by kernel_rfl) (by kernel_rfl) (by kernel_rfl) (fun _ _ _ _ _ h=>h) ⟨hz.keep (Below.refl _ _).drew,cell_old f1 (Below.refl _ _).drew,cell_old f2 (Below.refl _ _).drew⟩ ?_
  simp only[steps,List.getElem?_cons_zero,List.getElem?_cons_succ]
  repeat(first
   |(refine ord_no rfl ?_;simp only[Act.put,List.setIfInBounds_toArray,List.set_cons_zero,List.set_cons_succ])
   |(refine ord_yes (v:= ?_) rfl rfl ?_ ?_;rotate_left;(focus(rintro w' ⟨⟨x0,x1,x2,x3⟩,y0,y1⟩;go_simp;try with_reducible rfl));simp only[Act.put,List.setIfInBounds_toArray,List.set_cons_zero,List.set_cons_succ]))
  refine ord_end ?_
  have hd1:Below wb.heap.size wb wb.drew:=(Below.refl _ _).drew
  have HB3:=Lib.hid (HB2.out.trans (hd1.mono HB2.out.size))
  have HZ3:=Lib.hid (HZ.out.keep hd1)
  have HC3:=Lib.hid (HC.out.keep hd1)
  clear hd1 hne f1 f2 hz HB2 HZ HC
  generalize World.drew _=wc at*
  obtain⟨wo,rfl⟩: ∃wo,wo=wc:=⟨_,rfl⟩
  go_wp2_with fail
  go_loopw [8] (fun vm wr=> ∃m:Nat,vm= .int .i64 (m:Int)∧m≤n∧(∀j < m,bb z i j=bb z k j)∧Below wo.heap.size wo wr) (fun vm _=>n - (intOf vm).toNat)
  case atStart=>exact⟨0,rfl,Nat.zero_le _,(fun j hj=>absurd hj (Nat.not_lt_zero j)),Below.refl _ _⟩
  case round=>
   obtain⟨m,rfl,hm,hall,hbr⟩:=hrel
   have HALL:=Lib.hid hall
   have HBR:=Lib.hid hbr
   have hz:=HZ3.out.keep hbr
   have hcl:=HC3.out.keep hbr
   have z0:=hz.p0
   clear hall hbr
   by_cases hlt:m < n
   ·have HLT:=Lib.hid hlt
    have hmn:(m:Int) < (n:Int):=by omega
    have hm9:m≤1000:=by have:=HN.out;omega
    obtain⟨g,q,y,r1,hr⟩:=hcl.b i HI.out
    obtain⟨g',q',y',r2,hr'⟩:=hcl.b k HK.out
    have b1:=hr m hlt
    have b2:=hr' m hlt
    clear hr hcl hlt hm hr'
    obtain⟨xa,hxa⟩: ∃x,bb z i m=x:=⟨_,rfl⟩
    rw[hxa] at b1
    have Hxa:=Lib.hid hxa
    clear hxa
    obtain⟨xb,hxb⟩: ∃x,bb z k m=x:=⟨_,rfl⟩
    rw[hxb] at b2
    have Hxb:=Lib.hid hxb
    clear hxb
    go_wp2_with fail
    clear z0
    by_cases hab:xa=xb
    case neg=>
     have hne:(xa !=xb)=true:=by rw[bne_iff_ne];exact hab
     have HAB:=Lib.hid hab
     clear hab
     cases xa <;> cases xb <;> first|exact absurd rfl HAB.out|skip
     all_goals(
      clear hne
      refine wp_region_ord [0,1,2,3,4,5,6,7,8,9,10,11,12,13,14,15,16] [] 17 (fun W=>ZB W w.heap.size (some ⟨p0,o0,none⟩) n c1 (some ⟨p1,o1,none⟩) n c2 (some ⟨p2,o2,none⟩) n c3 (some ⟨p4,o4,none⟩) n c4∧W.cell? ⟨p4,o4+i,none⟩=some (.slice (some ⟨g,q,none⟩) n y)∧W.cell? ⟨p4,o4+k,none⟩=some (.slice (some ⟨g',q',none⟩) n y')∧W.cell? ⟨g,q+m,none⟩=some (.bool _)∧W.cell? ⟨g',q'+m,none⟩=some (.bool _)) (by kernel_rfl) (by kernel_rfl) (by kernel_rfl) (by kernel_rfl) (fun _ _ _ _ _ h=>h) ⟨hz.keep (Below.refl _ _).drew,cell_old r1 (Below.refl _ _).drew,cell_old r2 (Below.refl _ _).drew,cell_old b1 (Below.refl _ _).drew,cell_old b2 (Below.refl _ _).drew⟩ ?_
      simp only[steps,List.getElem?_cons_zero,List.getElem?_cons_succ]
      repeat(first
       |(refine ord_no rfl ?_;simp only[Act.put,List.setIfInBounds_toArray,List.set_cons_zero,List.set_cons_succ])
       |(refine ord_yes (v:= ?_) rfl rfl ?_ ?_;rotate_left;(focus(rintro w' ⟨⟨x0,x1,x2,x3⟩,y0,y1,y2,y3⟩;go_simp;try with_reducible rfl));simp only[Act.put,List.setIfInBounds_toArray,List.set_cons_zero,List.set_cons_succ]))
      refine ord_end ?_
      have HB4:=Lib.hid (HB3.out.trans ((HBR.out.trans ((Below.refl wr.heap.size wr).drew.mono HBR.out.size)).mono HB3.out.size))
      generalize World.drew _=we at*
      go_wp2_with fail
      go_ret
      exact⟨⟨false,rfl,fun h=>absurd h (by decide),fun h=>absurd h (ald_row (m:=m) (by rw[HX.out];decide) (by have:=HL.out;have:=HLT.out;omega) (by rw[Hxa.out,Hxb.out];decide))⟩,HB4.out⟩)
    have HEQ:Hid (bb z i m=bb z k m):=Lib.hid (by rw[Hxa.out,Hxb.out];exact hab)
    subst hab
    cases xa
    all_goals(
     refine wp_region_ord [0,1,2,3,4,5,6,7,8,9,10,11,12,13,14,15,16] [] 17 (fun W=>ZB W w.heap.size (some ⟨p0,o0,none⟩) n c1 (some ⟨p1,o1,none⟩) n c2 (some ⟨p2,o2,none⟩) n c3 (some ⟨p4,o4,none⟩) n c4∧W.cell? ⟨p4,o4+i,none⟩=some (.slice (some ⟨g,q,none⟩) n y)∧W.cell? ⟨p4,o4+k,none⟩=some (.slice (some ⟨g',q',none⟩) n y')∧W.cell? ⟨g,q+m,none⟩=some (.bool _)∧W.cell? ⟨g',q'+m,none⟩=some (.bool _)) (by kernel_rfl) (by kernel_rfl) (by kernel_rfl) (by kernel_rfl) (fun _ _ _ _ _ h=>h) ⟨hz.keep (Below.refl _ _).drew,cell_old r1 (Below.refl _ _).drew,cell_old r2 (Below.refl _ _).drew,cell_old b1 (Below.refl _ _).drew,cell_old b2 (Below.refl _ _).drew⟩ ?_
     simp only[steps,List.getElem?_cons_zero,List.getElem?_cons_succ]
     repeat(first
      |(refine ord_no rfl ?_;simp only[Act.put,List.setIfInBounds_toArray,List.set_cons_zero,List.set_cons_succ])
      |(refine ord_yes (v:= ?_) rfl rfl ?_ ?_;rotate_left;(focus(rintro w' ⟨⟨x0,x1,x2,x3⟩,y0,y1,y2,y3⟩;go_simp;try with_reducible rfl));simp only[Act.put,List.setIfInBounds_toArray,List.set_cons_zero,List.set_cons_succ]))
     refine ord_end ?_
     have HBR2:=Lib.hid (HBR.out.trans ((Below.refl wr.heap.size wr).drew.mono HBR.out.size))
     clear r1 r2 b1 b2 hz HBR
     generalize World.drew _=we at*
     go_wp2_with fail
     go_roundw
     case rel=>exact⟨m+1,by go_num,HLT.out,(fun j hj=>by
      by_cases ej:j=m
      ·subst ej;exact HEQ.out
      ·exact HALL.out j (by omega)),HBR2.out⟩
     case measure=>
      have:=HLT.out
      simp[intOf]
      omega)
   ·obtain rfl:n=m:=by omega
    go_wp2_with fail
    go_ret
    exact⟨⟨true,rfl,fun _=>ald_down HX.out HST.out HUV.out (fun m hm=>HALL.out m (by rw[← HL.out];exact hm)),fun _=>rfl⟩,HB3.out.trans (HBR.out.mono HB3.out.size)⟩
 ·obtain⟨hx,h0,h1,h2⟩:=hs3
  have HX:Hid (sd z i=2):=Lib.hid (HS.out.trans hx)
  clear hx hs2
  by_cases hik:i=k
  case pos=>
   obtain rfl:i=k:=hik
   have hik':((i:Int)==(i:Int))=true:=by simp
   go_wp2_with fail
   go_ret
   exact⟨.inr ⟨rfl,.inl rfl⟩,HB2.out⟩
  have hik':((i:Int)==(k:Int))=false:=by rw[beq_eq_false_iff_ne];omega
  have HNE:=Lib.hid hik
  clear hik
  go_wp2_with fail
  clear z0 e1 hik' h0 h1 h2
  have HB3:=HB2
  have HZ3:=HZ
  have HC3:=HC
  clear HB2 HZ HC
  obtain⟨wo,rfl⟩: ∃wo,wo=wb:=⟨_,rfl⟩
  go_loopw [9] (fun vm wr=> ∃m:Nat,vm= .int .i64 (m:Int)∧m≤n∧(∀j < m,(bb z j i=bb z j k∧bb z i j=bb z k j))∧Below wo.heap.size wo wr) (fun vm _=>n - (intOf vm).toNat)
  case atStart=>exact⟨0,rfl,Nat.zero_le _,(fun j hj=>absurd hj (Nat.not_lt_zero j)),Below.refl _ _⟩
  case round=>
   obtain⟨m,rfl,hm,hall,hbr⟩:=hrel
   have HALL:=Lib.hid hall
   have HBR:=Lib.hid hbr
   have hz:=HZ3.out.keep hbr
   have hcl:=HC3.out.keep hbr
   have z0:=hz.p0
   clear hall hbr
   by_cases hlt:m < n
   ·have HLT:=Lib.hid hlt
    have hmn:(m:Int) < (n:Int):=by omega
    have hm9:m≤1000:=by have:=HN.out;omega
    obtain⟨g,q,y,r1,hr⟩:=hcl.b i HI.out
    obtain⟨g',q',y',r2,hr'⟩:=hcl.b k HK.out
    obtain⟨d,t',y2,r3,hr3⟩:=hcl.b m hlt
    have b1:=hr3 i HI.out
    have b2:=hr3 k HK.out
    have b3:=hr m hlt
    have b4:=hr' m hlt
    clear hr3
    clear hr hcl hlt hm hr'
    obtain⟨xa,hxa⟩: ∃x,bb z m i=x:=⟨_,rfl⟩
    rw[hxa] at b1
    have Hxa:=Lib.hid hxa
    clear hxa
    obtain⟨xb,hxb⟩: ∃x,bb z m k=x:=⟨_,rfl⟩
    rw[hxb] at b2
    have Hxb:=Lib.hid hxb
    clear hxb
    obtain⟨xc,hxc⟩: ∃x,bb z i m=x:=⟨_,rfl⟩
    rw[hxc] at b3
    have Hxc:=Lib.hid hxc
    clear hxc
    obtain⟨xd,hxd⟩: ∃x,bb z k m=x:=⟨_,rfl⟩
    rw[hxd] at b4
    have Hxd:=Lib.hid hxd
    clear hxd
    go_wp2_with fail
    clear z0
    by_cases hab:xa=xb
    case neg=>
     have HAB:=Lib.hid hab
     clear hab
     cases xa <;> cases xb <;> first|exact absurd rfl HAB.out|skip
     all_goals(
      refine wp_region_ord [0,1,2,3,4,5,6,7,8,9,10,11,12,13,14,15,16,17,18,19,20,21,22,23,24,25,26,27,28,29,30,31,32,33,34,35] [] 36 (fun W=>ZB W w.heap.size (some ⟨p0,o0,none⟩) n c1 (some ⟨p1,o1,none⟩) n c2 (some ⟨p2,o2,none⟩) n c3 (some ⟨p4,o4,none⟩) n c4∧W.cell? ⟨p4,o4+i,none⟩=some (.slice (some ⟨g,q,none⟩) n y)∧W.cell? ⟨p4,o4+k,none⟩=some (.slice (some ⟨g',q',none⟩) n y')∧W.cell? ⟨p4,o4+m,none⟩=some (.slice (some ⟨d,t',none⟩) n y2)∧W.cell? ⟨d,t'+i,none⟩=some (.bool _)∧W.cell? ⟨d,t'+k,none⟩=some (.bool _)∧W.cell? ⟨g,q+m,none⟩=some (.bool _)∧W.cell? ⟨g',q'+m,none⟩=some (.bool _)) (by kernel_rfl) (by kernel_rfl) (by kernel_rfl) (by kernel_rfl) (fun _ _ _ _ _ h=>h) ⟨hz.keep (Below.refl _ _).drew,cell_old r1 (Below.refl _ _).drew,cell_old r2 (Below.refl _ _).drew,cell_old r3 (Below.refl _ _).drew,cell_old b1 (Below.refl _ _).drew,cell_old b2 (Below.refl _ _).drew,cell_old b3 (Below.refl _ _).drew,cell_old b4 (Below.refl _ _).drew⟩ ?_
      simp only[steps,List.getElem?_cons_zero,List.getElem?_cons_succ]
      repeat(first
       |(refine ord_no rfl ?_;simp only[Act.put,List.setIfInBounds_toArray,List.set_cons_zero,List.set_cons_succ])
       |(refine ord_yes (v:= ?_) rfl rfl ?_ ?_;rotate_left;(focus(rintro w' ⟨⟨x0,x1,x2,x3⟩,y0,y1,y2,y3,y4,y5,y6⟩;go_simp;try with_reducible rfl));simp only[Act.put,List.setIfInBounds_toArray,List.set_cons_zero,List.set_cons_succ]))
      refine ord_end ?_
      have HB4:=Lib.hid (HB3.out.trans ((HBR.out.trans ((Below.refl wr.heap.size wr).drew.mono HBR.out.size)).mono HB3.out.size))
      generalize World.drew _=we at*
      go_wp2_with fail
      go_ret
      exact⟨⟨false,rfl,fun h=>absurd h (by decide),fun h=>absurd h (ald_col (m:=m) (by rw[HX.out];decide) (by have:=HL.out;have:=HLT.out;omega) (by rw[Hxa.out,Hxb.out];decide))⟩,HB4.out⟩)
    by_cases hcd:xc=xd
    case neg=>
     have HAB:=Lib.hid hcd
     subst hab
     clear hcd
     cases xa <;> cases xc <;> cases xd <;> first|exact absurd rfl HAB.out|skip
     all_goals(
      refine wp_region_ord [0,1,2,3,4,5,6,7,8,9,10,11,12,13,14,15,16,17,18,19,20,21,22,23,24,25,26,27,28,29,30,31,32,33,34,35] [] 36 (fun W=>ZB W w.heap.size (some ⟨p0,o0,none⟩) n c1 (some ⟨p1,o1,none⟩) n c2 (some ⟨p2,o2,none⟩) n c3 (some ⟨p4,o4,none⟩) n c4∧W.cell? ⟨p4,o4+i,none⟩=some (.slice (some ⟨g,q,none⟩) n y)∧W.cell? ⟨p4,o4+k,none⟩=some (.slice (some ⟨g',q',none⟩) n y')∧W.cell? ⟨p4,o4+m,none⟩=some (.slice (some ⟨d,t',none⟩) n y2)∧W.cell? ⟨d,t'+i,none⟩=some (.bool _)∧W.cell? ⟨d,t'+k,none⟩=some (.bool _)∧W.cell? ⟨g,q+m,none⟩=some (.bool _)∧W.cell? ⟨g',q'+m,none⟩=some (.bool _)) (by kernel_rfl) (by kernel_rfl) (by kernel_rfl) (by kernel_rfl) (fun _ _ _ _ _ h=>h) ⟨hz.keep (Below.refl _ _).drew,cell_old r1 (Below.refl _ _).drew,cell_old r2 (Below.refl _ _).drew,cell_old r3 (Below.refl _ _).drew,cell_old b1 (Below.refl _ _).drew,cell_old b2 (Below.refl _ _).drew,cell_old b3 (Below.refl _ _).drew,cell_old b4 (Below.refl _ _).drew⟩ ?_
      simp only[steps,List.getElem?_cons_zero,List.getElem?_cons_succ]
      repeat(first
       |(refine ord_no rfl ?_;simp only[Act.put,List.setIfInBounds_toArray,List.set_cons_zero,List.set_cons_succ])
       |(refine ord_yes (v:= ?_) rfl rfl ?_ ?_;rotate_left;(focus(rintro w' ⟨⟨x0,x1,x2,x3⟩,y0,y1,y2,y3,y4,y5,y6⟩;go_simp;try with_reducible rfl));simp only[Act.put,List.setIfInBounds_toArray,List.set_cons_zero,List.set_cons_succ]))
      refine ord_end ?_
      have HB4:=Lib.hid (HB3.out.trans ((HBR.out.trans ((Below.refl wr.heap.size wr).drew.mono HBR.out.size)).mono HB3.out.size))
      generalize World.drew _=we at*
      go_wp2_with fail
      go_ret
      exact⟨⟨false,rfl,fun h=>absurd h (by decide),fun h=>absurd h (ald_row (m:=m) (by rw[HX.out];decide) (by have:=HL.out;have:=HLT.out;omega) (by rw[Hxc.out,Hxd.out];decide))⟩,HB4.out⟩)
    have HEQ:Hid ((bb z m i=bb z m k∧bb z i m=bb z k m)):=Lib.hid ⟨by rw[Hxa.out,Hxb.out];exact hab,by rw[Hxc.out,Hxd.out];exact hcd⟩
    subst hab
    subst hcd
    cases xa <;> cases xc
    all_goals(
     refine wp_region_ord [0,1,2,3,4,5,6,7,8,9,10,11,12,13,14,15,16,17,18,19,20,21,22,23,24,25,26,27,28,29,30,31,32,33,34,35] [] 36 (fun W=>ZB W w.heap.size (some ⟨p0,o0,none⟩) n c1 (some ⟨p1,o1,none⟩) n c2 (some ⟨p2,o2,none⟩) n c3 (some ⟨p4,o4,none⟩) n c4∧W.cell? ⟨p4,o4+i,none⟩=some (.slice (some ⟨g,q,none⟩) n y)∧W.cell? ⟨p4,o4+k,none⟩=some (.slice (some ⟨g',q',none⟩) n y')∧W.cell? ⟨p4,o4+m,none⟩=some (.slice (some ⟨d,t',none⟩) n y2)∧W.cell? ⟨d,t'+i,none⟩=some (.bool _)∧W.cell? ⟨d,t'+k,none⟩=some (.bool _)∧W.cell? ⟨g,q+m,none⟩=some (.bool _)∧W.cell? ⟨g',q'+m,none⟩=some (.bool _)) (by kernel_rfl) (by kernel_rfl) (by kernel_rfl) (by kernel_rfl) (fun _ _ _ _ _ h=>h) ⟨hz.keep (Below.refl _ _).drew,cell_old r1 (Below.refl _ _).drew,cell_old r2 (Below.refl _ _).drew,cell_old r3 (Below.refl _ _).drew,cell_old b1 (Below.refl _ _).drew,cell_old b2 (Below.refl _ _).drew,cell_old b3 (Below.refl _ _).drew,cell_old b4 (Below.refl _ _).drew⟩ ?_
     simp only[steps,List.getElem?_cons_zero,List.getElem?_cons_succ]
     repeat(first
      |(refine ord_no rfl ?_;simp only[Act.put,List.setIfInBounds_toArray,List.set_cons_zero,List.set_cons_succ])
      |(refine ord_yes (v:= ?_) rfl rfl ?_ ?_;rotate_left;(focus(rintro w' ⟨⟨x0,x1,x2,x3⟩,y0,y1,y2,y3,y4,y5,y6⟩;go_simp;try with_reducible rfl));simp only[Act.put,List.setIfInBounds_toArray,List.set_cons_zero,List.set_cons_succ]))
     refine ord_end ?_
     have HBR2:=Lib.hid (HBR.out.trans ((Below.refl wr.heap.size wr).drew.mono HBR.out.size))
     clear r1 r2 r3 b1 b2 b3 b4 hz HBR
     generalize World.drew _=we at*
     go_wp2_with fail
     go_roundw
     case rel=>exact⟨m+1,by go_num,HLT.out,(fun j hj=>by
      by_cases ej:j=m
      ·subst ej;exact HEQ.out
      ·exact HALL.out j (by omega)),HBR2.out⟩
     case measure=>
      have:=HLT.out
      simp[intOf]
      omega)
   ·obtain rfl:n=m:=by omega
    have l1:=hcl.l i HI.out
    have l2:=hcl.l k HK.out
    have l3:=hcl.h i HI.out
    have l4:=hcl.h k HK.out
    obtain⟨g,q,y,r1,hr⟩:=hcl.b i HI.out
    obtain⟨g',q',y',r2,hr'⟩:=hcl.b k HK.out
    have b1:=hr k HK.out
    have b2:=hr' i HI.out
    clear hr hr' hcl hlt hm
    obtain⟨u,hu⟩: ∃x,lw z i=x:=⟨_,rfl⟩
    rw[hu] at l1
    have Hu:=Lib.hid hu
    clear hu
    obtain⟨v,hv⟩: ∃x,lw z k=x:=⟨_,rfl⟩
    rw[hv] at l2
    have Hv:=Lib.hid hv
    clear hv
    obtain⟨u2,hu2⟩: ∃x,hg z i=x:=⟨_,rfl⟩
    rw[hu2] at l3
    have Hu2:=Lib.hid hu2
    clear hu2
    obtain⟨v2,hv2⟩: ∃x,hg z k=x:=⟨_,rfl⟩
    rw[hv2] at l4
    have Hv2:=Lib.hid hv2
    clear hv2
    obtain⟨xa,hxa⟩: ∃x,bb z i k=x:=⟨_,rfl⟩
    rw[hxa] at b1
    have Hxa:=Lib.hid hxa
    clear hxa
    obtain⟨xb,hxb⟩: ∃x,bb z k i=x:=⟨_,rfl⟩
    rw[hxb] at b2
    have Hxb:=Lib.hid hxb
    clear hxb
    go_wp2_with fail
    clear z0
    by_cases huv:u=v
    case neg=>
     have hq1:((u:Int)==(v:Int))=false:=by rw[beq_eq_false_iff_ne];omega
     refine wp_region_ord [0,1,2,3,4,5,6,7,8,9,10,11,12,13,14,15,16,17,18,19,20,21,22,23,24,25,26,27,28,29,30,31,32,33,34,35,36,37,38,39,40,41,42,43,44] [] 45 (fun W=>ZB W w.heap.size (some ⟨p0,o0,none⟩) n c1 (some ⟨p1,o1,none⟩) n c2 (some ⟨p2,o2,none⟩) n c3 (some ⟨p4,o4,none⟩) n c4∧W.cell? ⟨p1,o1+i,none⟩=some (.int .u64 (u:Int))∧W.cell? ⟨p1,o1+k,none⟩=some (.int .u64 (v:Int))∧W.cell? ⟨p2,o2+i,none⟩=some (.int .u64 (u2:Int))∧W.cell? ⟨p2,o2+k,none⟩=some (.int .u64 (v2:Int))∧W.cell? ⟨p4,o4+i,none⟩=some (.slice (some ⟨g,q,none⟩) n y)∧W.cell? ⟨p4,o4+k,none⟩=some (.slice (some ⟨g',q',none⟩) n y')∧W.cell? ⟨g,q+k,none⟩=some (.bool _)∧W.cell? ⟨g',q'+i,none⟩=some (.bool _)) (by kernel_rfl) (by kernel_rfl) (by kernel_rfl) (by kernel_rfl) (fun _ _ _ _ _ h=>h) ⟨hz.keep (Below.refl _ _).drew,cell_old l1 (Below.refl _ _).drew,cell_old l2 (Below.refl _ _).drew,cell_old l3 (Below.refl _ _).drew,cell_old l4 (Below.refl _ _).drew,cell_old r1 (Below.refl _ _).drew,cell_old r2 (Below.refl _ _).drew,cell_old b1 (Below.refl _ _).drew,cell_old b2 (Below.refl _ _).drew⟩ ?_
     simp only[steps,List.getElem?_cons_zero,List.getElem?_cons_succ]
     repeat(first
      |(refine ord_no rfl ?_;simp only[Act.put,List.setIfInBounds_toArray,List.set_cons_zero,List.set_cons_succ])
      |(refine ord_yes (v:= ?_) rfl rfl ?_ ?_;rotate_left;(focus(rintro w' ⟨⟨x0,x1,x2,x3⟩,y0,y1,y2,y3,y4,y5,y6,y7⟩;go_simp;try with_reducible rfl));simp only[Act.put,List.setIfInBounds_toArray,List.set_cons_zero,List.set_cons_succ]))
     refine ord_end ?_
     have HB4:=Lib.hid (HB3.out.trans ((HBR.out.trans ((Below.refl wr.heap.size wr).drew.mono HBR.out.size)).mono HB3.out.size))
     generalize World.drew _=we at*
     go_wp2_with fail
     go_ret
     exact⟨⟨_,rfl,ald_both HX.out HST.out HNE.out (by rw[HL.out];exact HI.out) (by rw[HL.out];exact HK.out) (fun m hm=>HALL.out m (by rw[← HL.out];exact hm)) (by rw[Hu.out,Hv.out,Hu2.out,Hv2.out,Hxa.out,Hxb.out,decide_eq_false huv,Bool.false_and])⟩,HB4.out⟩
    have hq1:((u:Int)==(v:Int))=true:=by rw[beq_iff_eq];omega
    by_cases huv2:u2=v2
    case neg=>
     have hq2:((u2:Int)==(v2:Int))=false:=by rw[beq_eq_false_iff_ne];omega
     refine wp_region_ord [0,1,2,3,4,5,6,7,8,9,10,11,12,13,14,15,16,17,18,19,20,21,22,23,24,25,26,27,28,29,30,31,32,33,34,35,36,37,38,39,40,41,42,43,44] [] 45 (fun W=>ZB W w.heap.size (some ⟨p0,o0,none⟩) n c1 (some ⟨p1,o1,none⟩) n c2 (some ⟨p2,o2,none⟩) n c3 (some ⟨p4,o4,none⟩) n c4∧W.cell? ⟨p1,o1+i,none⟩=some (.int .u64 (u:Int))∧W.cell? ⟨p1,o1+k,none⟩=some (.int .u64 (v:Int))∧W.cell? ⟨p2,o2+i,none⟩=some (.int .u64 (u2:Int))∧W.cell? ⟨p2,o2+k,none⟩=some (.int .u64 (v2:Int))∧W.cell? ⟨p4,o4+i,none⟩=some (.slice (some ⟨g,q,none⟩) n y)∧W.cell? ⟨p4,o4+k,none⟩=some (.slice (some ⟨g',q',none⟩) n y')∧W.cell? ⟨g,q+k,none⟩=some (.bool _)∧W.cell? ⟨g',q'+i,none⟩=some (.bool _)) (by kernel_rfl) (by kernel_rfl) (by kernel_rfl) (by kernel_rfl) (fun _ _ _ _ _ h=>h) ⟨hz.keep (Below.refl _ _).drew,cell_old l1 (Below.refl _ _).drew,cell_old l2 (Below.refl _ _).drew,cell_old l3 (Below.refl _ _).drew,cell_old l4 (Below.refl _ _).drew,cell_old r1 (Below.refl _ _).drew,cell_old r2 (Below.refl _ _).drew,cell_old b1 (Below.refl _ _).drew,cell_old b2 (Below.refl _ _).drew⟩ ?_
     simp only[steps,List.getElem?_cons_zero,List.getElem?_cons_succ]
     repeat(first
      |(refine ord_no rfl ?_;simp only[Act.put,List.setIfInBounds_toArray,List.set_cons_zero,List.set_cons_succ])
      |(refine ord_yes (v:= ?_) rfl rfl ?_ ?_;rotate_left;(focus(rintro w' ⟨⟨x0,x1,x2,x3⟩,y0,y1,y2,y3,y4,y5,y6,y7⟩;go_simp;try with_reducible rfl));simp only[Act.put,List.setIfInBounds_toArray,List.set_cons_zero,List.set_cons_succ]))
     refine ord_end ?_
     have HB4:=Lib.hid (HB3.out.trans ((HBR.out.trans ((Below.refl wr.heap.size wr).drew.mono HBR.out.size)).mono HB3.out.size))
     generalize World.drew _=we at*
     go_wp2_with fail
     go_ret
     exact⟨⟨_,rfl,ald_both HX.out HST.out HNE.out (by rw[HL.out];exact HI.out) (by rw[HL.out];exact HK.out) (fun m hm=>HALL.out m (by rw[← HL.out];exact hm)) (by rw[Hu.out,Hv.out,Hu2.out,Hv2.out,Hxa.out,Hxb.out,decide_eq_false huv2,Bool.false_and,Bool.and_false])⟩,HB4.out⟩
    have hq2:((u2:Int)==(v2:Int))=true:=by rw[beq_iff_eq];omega
    cases xa
    all_goals(
     refine wp_region_ord [0,1,2,3,4,5,6,7,8,9,10,11,12,13,14,15,16,17,18,19,20,21,22,23,24,25,26,27,28,29,30,31,32,33,34,35,36,37,38,39,40,41,42,43,44] [] 45 (fun W=>ZB W w.heap.size (some ⟨p0,o0,none⟩) n c1 (some ⟨p1,o1,none⟩) n c2 (some ⟨p2,o2,none⟩) n c3 (some ⟨p4,o4,none⟩) n c4∧W.cell? ⟨p1,o1+i,none⟩=some (.int .u64 (u:Int))∧W.cell? ⟨p1,o1+k,none⟩=some (.int .u64 (v:Int))∧W.cell? ⟨p2,o2+i,none⟩=some (.int .u64 (u2:Int))∧W.cell? ⟨p2,o2+k,none⟩=some (.int .u64 (v2:Int))∧W.cell? ⟨p4,o4+i,none⟩=some (.slice (some ⟨g,q,none⟩) n y)∧W.cell? ⟨p4,o4+k,none⟩=some (.slice (some ⟨g',q',none⟩) n y')∧W.cell? ⟨g,q+k,none⟩=some (.bool _)∧W.cell? ⟨g',q'+i,none⟩=some (.bool _)) (by kernel_rfl) (by kernel_rfl) (by kernel_rfl) (by kernel_rfl) (fun _ _ _ _ _ h=>h) ⟨hz.keep (Below.refl _ _).drew,cell_old l1 (Below.refl _ _).drew,cell_old l2 (Below.refl _ _).drew,cell_old l3 (Below.refl _ _).drew,cell_old l4 (Below.refl _ _).drew,cell_old r1 (Below.refl _ _).drew,cell_old r2 (Below.refl _ _).drew,cell_old b1 (Below.refl _ _).drew,cell_old b2 (Below.refl _ _).drew⟩ ?_
     simp only[steps,List.getElem?_cons_zero,List.getElem?_cons_succ]
     repeat(first
      |(refine ord_no rfl ?_;simp only[Act.put,List.setIfInBounds_toArray,List.set_cons_zero,List.set_cons_succ])
      |(refine ord_yes (v:= ?_) rfl rfl ?_ ?_;rotate_left;(focus(rintro w' ⟨⟨x0,x1,x2,x3⟩,y0,y1,y2,y3,y4,y5,y6,y7⟩;go_simp;try with_reducible rfl));simp only[Act.put,List.setIfInBounds_toArray,List.set_cons_zero,List.set_cons_succ]))
     refine ord_end ?_
     have HB4:=Lib.hid (HB3.out.trans ((HBR.out.trans ((Below.refl wr.heap.size wr).drew.mono HBR.out.size)).mono HB3.out.size))
     generalize World.drew _=we at*
     go_wp2_with fail
     go_ret
     exact⟨⟨_,rfl,ald_both HX.out HST.out HNE.out (by rw[HL.out];exact HI.out) (by rw[HL.out];exact HK.out) (fun m hm=>HALL.out m (by rw[← HL.out];exact hm)) (by rw[Hu.out,Hv.out,Hu2.out,Hv2.out,Hxa.out,Hxb.out,decide_eq_true huv,decide_eq_true huv2,Bool.true_and,Bool.true_and];simp)⟩,HB4.out⟩)
end Go.Proofs.YtphklakjadchmaaGreatDoor.I
