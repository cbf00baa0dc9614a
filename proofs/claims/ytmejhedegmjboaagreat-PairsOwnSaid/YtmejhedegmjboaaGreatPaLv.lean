/- SameTerms, and lives: one sense's terms. No condition. -/
/- lives. No condition. -/
import Derived.Test.YtmejhedegmjboaaGreatKp
import Derived.Test.YtmejhedegmjboaaGreatPaZ
namespace Go.Proofs.YtmejhedegmjboaaGreat
namespace I
open Go.RowKit PaC
set_option maxRecDepth 100000 in
set_option maxHeartbeats 4000000 in
theorem sameT_any (A B:Option Addr)(n c n2 c2:Nat)(l l2:List Tm)(w:World)(h:Rs tmc 2 w w.heap.size A n c l)(h2:Rs tmc 2 w w.heap.size B n2 c2 l2)(hn:n≤60000)(res:Bool)(hres:decide (l=l2)=res):
  Calls Tryz.prog 23 #[.slice A n c,.slice B n2 c2] w fun e w'=>e= .returned (.bool res)∧Below w.heap.size w w':=by
 have HL:=Lib.hid h.len
 have HL2:=Lib.hid h2.len
 by_cases hne:n=n2
 case neg=>
  have g1:((n:Int) !=(n2:Int))=true:=by simp;omega
  obtain rfl:false=res:=by
   rw[← hres]
   symm
   apply decide_eq_false
   intro e
   have:=HL.out
   have:=HL2.out
   subst e
   omega
  clear h h2 hn hres hne
  go_enter Tryz.func23,Tryz.ntmps23
  go_wp2
  go_ret
  exact⟨rfl,Below.refl _ _⟩
 subst hne
 have g1:((n:Int) !=(n:Int))=false:=by simp
 have HH:=Lib.hid h
 have HH2:=Lib.hid h2
 have HN:=Lib.hid hn
 have HR:=Lib.hid hres
 clear h h2 hn hres
 go_enter Tryz.func23,Tryz.ntmps23
 go_wp2
 clear g1
 go_loopw [5] (fun v13 wr=> ∃i:Nat,v13= .int .i64 (i:Int)∧i≤n∧(∀j (q:j < i) (q1:j < l.length) (q2:j < l2.length),l[j]=l2[j])∧Below w.heap.size w wr) (fun v13 _=>n - (intOf v13).toNat)
 case atStart=>exact⟨0,rfl,Nat.zero_le _,fun j q=>absurd q (Nat.not_lt_zero j),Below.refl _ _⟩
 case round=>
  obtain⟨i,rfl,hi,hall,hb⟩:=hrel
  by_cases hlt:i < n
  ·have hil:i < l.length:=by have:=HL.out;omega
   have hil2:i < l2.length:=by have:=HL2.out;omega
   obtain⟨b1,o1,rfl,-,u0,u1⟩:=term_at (HH.out.at_size (Nat.le_refl _) hb) hil
   obtain⟨b2,o2,rfl,-,v0,v1⟩:=term_at (HH2.out.at_size (Nat.le_refl _) hb) hil2
   have HIL:=Lib.hid (And.intro hil hil2)
   obtain⟨t1,e1⟩: ∃t,l[i]=t:=⟨_,rfl⟩
   obtain⟨t2,e2⟩: ∃t,l2[i]=t:=⟨_,rfl⟩
   rw[e1] at u0 u1
   rw[e2] at v0 v1
   have HE:Hid (l[i]=t1∧l2[i]=t2):=Lib.hid ⟨e1,e2⟩
   have HALL:=Lib.hid hall
   have HLT:=Lib.hid hlt
   have HB:=Lib.hid hb
   have hin:(i:Int) < (n:Int):=by omega
   have hi9:i≤60000:=by have:=HN.out;omega
   have HNO:Hid (t1≠t2→res=false):=Lib.hid fun e=>by
    rw[← HR.out]
    apply decide_eq_false
    intro e'
    subst e'
    exact e (HE.out.1.symm.trans HE.out.2)
   have HYES:Hid (t1=t2→ ∀j (q:j < i+1) (q1:j < l.length) (q2:j < l2.length),l[j]=l2[j]):=Lib.hid fun e j q q1 q2=>by
    by_cases e':j=i
    ·subst e'
     rw[HE.out.1,HE.out.2,e]
    ·exact HALL.out j (by omega) q1 q2
   clear hi hall hlt e1 e2 hb
   obtain⟨a,x⟩:=t1
   obtain⟨b,y⟩:=t2
   simp only at u0 u1 v0 v1
   rcases tm_cases (a,x) (b,y) with e|⟨e,e'⟩|⟨e,e'⟩|⟨e,e'⟩
   ·simp only[Prod.mk.injEq] at e
    obtain⟨rfl,rfl⟩:=e
    have HN:=Lib.hid (HYES.out rfl)
    have gx:(x==x)=true:=by simp
    have ga:(a==a)=true:=by simp
    go_wp2_with fail
    refine wp_region_ord [0,1,2,3,4,5,6,7,8] [] 9 (fun W=>W.cell? ⟨b1,o1+i*2,none⟩=some (.bool a)∧W.cell? ⟨b1,o1+i*2+1,none⟩=some (.int .u64 x)∧W.cell? ⟨b2,o2+i*2,none⟩=some (.bool a)∧W.cell? ⟨b2,o2+i*2+1,none⟩=some (.int .u64 x)) (by kernel_rfl) (by kernel_rfl) (by kernel_rfl) (by kernel_rfl) (fun _ _ _ _ _ h=>h) ⟨u0,u1,v0,v1⟩ ?_
    simp only[steps,List.getElem?_cons_zero,List.getElem?_cons_succ]
    repeat(first
     |(refine ord_no rfl ?_;simp only[Act.put,List.setIfInBounds_toArray,List.set_cons_zero,List.set_cons_succ])
     |(refine ord_yes (v:= ?_) rfl rfl ?_ ?_;rotate_left;(focus(rintro w' ⟨x0,x1,x2,x3⟩;go_simp;try with_reducible rfl));simp only[Act.put,List.setIfInBounds_toArray,List.set_cons_zero,List.set_cons_succ]))
    have HBD:=Lib.hid (HB.out.trans ((Below.refl wr.heap.size wr).drew.mono HB.out.size))
    clear u0 u1 v0 v1 HB
    generalize World.drew _=wd at*
    refine ord_end ?_
    go_wp2_with fail
    go_roundw
    case rel=>exact⟨i+1,by go_num,HLT.out,HN.out,HBD.out⟩
    case measure=>
     have:=HLT.out
     simp[intOf]
     omega
   ·simp only at e e'
    subst e e'
    obtain rfl:false=res:=(HNO.out (by simp)).symm
    go_wp2_with fail
    refine wp_region_ord [0,1,2,3,4,5,6,7,8] [] 9 (fun W=>W.cell? ⟨b1,o1+i*2,none⟩=some (.bool true)∧W.cell? ⟨b1,o1+i*2+1,none⟩=some (.int .u64 x)∧W.cell? ⟨b2,o2+i*2,none⟩=some (.bool false)∧W.cell? ⟨b2,o2+i*2+1,none⟩=some (.int .u64 y)) (by kernel_rfl) (by kernel_rfl) (by kernel_rfl) (by kernel_rfl) (fun _ _ _ _ _ h=>h) ⟨u0,u1,v0,v1⟩ ?_
    simp only[steps,List.getElem?_cons_zero,List.getElem?_cons_succ]
    repeat(first
     |(refine ord_no rfl ?_;simp only[Act.put,List.setIfInBounds_toArray,List.set_cons_zero,List.set_cons_succ])
     |(refine ord_yes (v:= ?_) rfl rfl ?_ ?_;rotate_left;(focus(rintro w' ⟨x0,x1,x2,x3⟩;go_simp;try with_reducible rfl));simp only[Act.put,List.setIfInBounds_toArray,List.set_cons_zero,List.set_cons_succ]))
    have HBD:=Lib.hid (HB.out.trans ((Below.refl wr.heap.size wr).drew.mono HB.out.size))
    clear u0 u1 v0 v1 HB
    generalize World.drew _=wd at*
    refine ord_end ?_
    go_wp2_with fail
    go_ret
    exact⟨rfl,HBD.out⟩
   ·simp only at e e'
    subst e e'
    obtain rfl:false=res:=(HNO.out (by simp)).symm
    go_wp2_with fail
    refine wp_region_ord [0,1,2,3,4,5,6,7,8] [] 9 (fun W=>W.cell? ⟨b1,o1+i*2,none⟩=some (.bool false)∧W.cell? ⟨b1,o1+i*2+1,none⟩=some (.int .u64 x)∧W.cell? ⟨b2,o2+i*2,none⟩=some (.bool true)∧W.cell? ⟨b2,o2+i*2+1,none⟩=some (.int .u64 y)) (by kernel_rfl) (by kernel_rfl) (by kernel_rfl) (by kernel_rfl) (fun _ _ _ _ _ h=>h) ⟨u0,u1,v0,v1⟩ ?_
    simp only[steps,List.getElem?_cons_zero,List.getElem?_cons_succ]
    repeat(first
     |(refine ord_no rfl ?_;simp only[Act.put,List.setIfInBounds_toArray,List.set_cons_zero,List.set_cons_succ])
     |(refine ord_yes (v:= ?_) rfl rfl ?_ ?_;rotate_left;(focus(rintro w' ⟨x0,x1,x2,x3⟩;go_simp;try with_reducible rfl));simp only[Act.put,List.setIfInBounds_toArray,List.set_cons_zero,List.set_cons_succ]))
    have HBD:=Lib.hid (HB.out.trans ((Below.refl wr.heap.size wr).drew.mono HB.out.size))
    clear u0 u1 v0 v1 HB
    generalize World.drew _=wd at*
    refine ord_end ?_
    go_wp2_with fail
    go_ret
    exact⟨rfl,HBD.out⟩
   ·simp only at e e'
    subst e
    obtain rfl:false=res:=(HNO.out (by simp[e'])).symm
    have gx:(x==y)=false:=by simpa using e'
    have ga:(a==a)=true:=by simp
    clear e'
    go_wp2_with fail
    refine wp_region_ord [0,1,2,3,4,5,6,7,8] [] 9 (fun W=>W.cell? ⟨b1,o1+i*2,none⟩=some (.bool a)∧W.cell? ⟨b1,o1+i*2+1,none⟩=some (.int .u64 x)∧W.cell? ⟨b2,o2+i*2,none⟩=some (.bool a)∧W.cell? ⟨b2,o2+i*2+1,none⟩=some (.int .u64 y)) (by kernel_rfl) (by kernel_rfl) (by kernel_rfl) (by kernel_rfl) (fun _ _ _ _ _ h=>h) ⟨u0,u1,v0,v1⟩ ?_
    simp only[steps,List.getElem?_cons_zero,List.getElem?_cons_succ]
    repeat(first
     |(refine ord_no rfl ?_;simp only[Act.put,List.setIfInBounds_toArray,List.set_cons_zero,List.set_cons_succ])
     |(refine ord_yes (v:= ?_) rfl rfl ?_ ?_;rotate_left;(focus(rintro w' ⟨x0,x1,x2,x3⟩;go_simp;try with_reducible rfl));simp only[Act.put,List.setIfInBounds_toArray,List.set_cons_zero,List.set_cons_succ]))
    have HBD:=Lib.hid (HB.out.trans ((Below.refl wr.heap.size wr).drew.mono HB.out.size))
    clear u0 u1 v0 v1 HB
    generalize World.drew _=wd at*
    refine ord_end ?_
    go_wp2_with fail
    go_ret
    exact⟨rfl,HBD.out⟩
  ·obtain rfl:n=i:=by omega
   obtain rfl:true=res:=by
    rw[← HR.out]
    symm
    apply decide_eq_true
    exact List.ext_getElem (by have:=HL.out;have:=HL2.out;omega) fun j q1 q2=>hall j (by have:=HL.out;omega) q1 q2
   have HB:=Lib.hid hb
   clear hi hall hlt hb
   go_wp2_with fail
   go_ret
   exact⟨rfl,HB.out⟩
end I
open Go.RowKit PaC
theorem cfgL:I.cfg lS zL=⟨zL.p.length,fun i=>if i < 4 then i else I.first zL i,I.fixB lS zL,I.sd zL,I.soB zL,I.siB zL,I.mayB lS zL⟩:=by
 have e:I.first zL=fun i=>if i < 4 then i else I.first zL i:=by
  funext i
  split
  ·next h=>exact zL_first h
  ·rfl
 unfold I.cfg
 rw[← e]
theorem trmL_L:I.trmL lS zL= [(false,0),(false,0),(true,0),(true,0)]:=by
 unfold I.trmL I.trm
 rw[cfgL]
 decide+kernel
theorem trmN_L:I.trmN lS zL=1:=by
 unfold I.trmN
 rw[cfgL]
 decide+kernel
theorem bds_L:I.bds lS zL= []:=by
 refine List.eq_nil_of_length_eq_zero ?_
 unfold I.bds
 rw[trmN_L]
 unfold I.bdsF I.bdsV I.lowBd I.highBd I.covBd I.covB I.undB
 rw[cfgL]
 decide+kernel
end Go.Proofs.YtmejhedegmjboaaGreat
namespace Go.Proofs.YtmejhedegmjboaaGreat
open Go.RowKit PaC
theorem four_terms (w:World):Rs tmc 2 ((w.alloc (.cells #[.bool true,.int .u64 0] 62)).alloc (.cells #[.bool false,.int .u64 0,.bool false,.int .u64 0,.bool true,.int .u64 0,.bool true,.int .u64 0] 62)) ((w.alloc (.cells #[.bool true,.int .u64 0] 62)).alloc (.cells #[.bool false,.int .u64 0,.bool false,.int .u64 0,.bool true,.int .u64 0,.bool true,.int .u64 0] 62)).heap.size (some ⟨w.heap.size+1,0,none⟩) 4 4 [(false,0),(false,0),(true,0),(true,0)]:=by
 have h:=heap_alloc_new (w.alloc (.cells #[.bool true,.int .u64 0] 62)) (.cells #[.bool false,.int .u64 0,.bool false,.int .u64 0,.bool true,.int .u64 0,.bool true,.int .u64 0] 62)
 rw[World.size_alloc] at h
 exact Rs.of_blk tmc_len h ⟨[],rfl⟩ rfl (Nat.le_refl _) (by unfold maxLen;omega)
set_option maxRecDepth 100000 in
set_option maxHeartbeats 4000000 in
theorem lives_any (w:World):Calls Tryz.prog 9 #[] w fun e w'=>e= .returned (.bool true)∧Below w.heap.size w w':=by
 go_enter Tryz.func9,Tryz.ntmps9
 go_wp2_with fail
 refine(chain_any w).mono ?_
 rintro e w1 ⟨g0,rfl,hr,hb1⟩
 have HB1:=Lib.hid hb1
 have hcall:=of_sorts (some ⟨g0,0,none⟩) 2 2 1 [3,2] w1 hr (by intro x hx;simp only[List.mem_cons,List.not_mem_nil,or_false] at hx;omega)
 clear hr hb1
 have HC:=Lib.hid hcall
 clear hcall
 go_wp2_with fail
 refine HC.out.mono ?_
 rintro e w2 ⟨a,b,rfl,hbo,hv⟩
 have HB2:=Lib.hid (HB1.out.trans (hv.mono HB1.out.size))
 have HBO:=Lib.hid hbo
 clear hbo hv HC HB1
 go_wp2_with fail
 refine(simple_any w2).mono ?_
 rintro e w3 ⟨gs,rfl,hs,hv⟩
 have HB3:=Lib.hid (HB2.out.trans (hv.mono HB2.out.size))
 have HBO3:=Lib.hid (HBO.out.keep hv)
 have HC:=Lib.hid (senOf_any sE2 _ _ _ _ _ _ _ _ _ a b lS xS _ hs HBO3.out (laOf_ok _) (efOf_ok _))
 clear hv HBO HB2 hs
 unfold schV at HC ⊢
 go_wp2_with fail
 refine HC.out.mono ?_
 rintro e w4 ⟨x1,p1,q1,rfl,hof,hv⟩
 obtain⟨hx1,hp1⟩:=of_ex hof ex_c2 rfl rfl rfl rfl
 obtain⟨A1,n1,c1,A2,n2,c2,A3,n3,c3,A4,n4,c4⟩:=p1
 obtain⟨B1,m1,d1,B2,m2,d2,B3,m3,d3,B4,m4,d4⟩:=q1
 replace hp1:SenAt w4 z2 A1 n1 c1 A2 n2 c2 A3 n3 c3 A4 n4 c4:=hp1
 simp only[Q4.v,senV]
 have HB4:=Lib.hid (HB3.out.trans (hv.mono HB3.out.size))
 have HBO4:=Lib.hid (HBO3.out.keep hv)
 have HP1:=Lib.hid hp1.toI
 clear hof hp1 hv HC HBO3 HB3
 subst hx1
 have h8:=B8.new w4 A1 n1 c1 A2 n2 c2 A3 n3 c3 A4 n4 c4 B1 m1 d1 B2 m2 d2 B3 m3 d3 B4 m4 d4
 have hal:=two_below w4 (.cells #[.slice A1 n1 c1,.slice A2 n2 c2,.slice A3 n3 c3,.slice A4 n4 c4] 28) (.cells #[.slice B1 m1 d1,.slice B2 m2 d2,.slice B3 m3 d3,.slice B4 m4 d4] 28)
 have HBA:=Lib.hid (HB4.out.trans (hal.mono HB4.out.size))
 have HBOA:=Lib.hid (HBO4.out.keep hal)
 have HPA:=Lib.hid (HP1.out.keep hal)
 have H8:=Lib.hid h8
 have t0:=h8.p0
 have t1:=h8.p1
 have t2:=h8.p2
 have t3:=h8.p3
 clear h8 hal HB4 HBO4 HP1
 go_wp2_with fail
 generalize hwa:(w4.alloc (.cells #[.slice A1 n1 c1,.slice A2 n2 c2,.slice A3 n3 c3,.slice A4 n4 c4] 28)).alloc (.cells #[.slice B1 m1 d1,.slice B2 m2 d2,.slice B3 m3 d3,.slice B4 m4 d4] 28)=wa at*
 clear hwa
 generalize w4.heap.size=g3 at*
 have hn1:n1=4:=by rw[← HPA.out.rp.len,zL_len]
 have HOF:=Lib.hid (I.pairsOf_any (.iface 74 (.pointer a)) lS zL A1 n1 c1 A2 n2 c2 A3 n3 c3 A4 n4 c4 wa HBOA.out.sl.into HPA.out (by omega))
 clear hn1
 unfold senV at HOF
 refine HOF.out.mono ?_
 rintro e w5 ⟨F1,k3,f3,rfl,ho,hv⟩
 rw[trmN_L]
 have hrs:=Rs.of_own tmc_len (by decide) ho
 rw[trmL_L] at hrs
 have HRT:=Lib.hid hrs
 have hk3:k3=4:=hrs.len.symm
 subst hk3
 have HB5:=Lib.hid (HBA.out.trans (hv.mono HBA.out.size))
 have HP5:=Lib.hid (HPA.out.keep hv)
 have H85:=Lib.hid (H8.out.keep hv)
 have HBO5:=Lib.hid (HBOA.out.keep hv)
 have hal:=two_below w5 (.cells #[.bool true,.int .u64 0] 62) (.cells #[.bool false,.int .u64 0,.bool false,.int .u64 0,.bool true,.int .u64 0,.bool true,.int .u64 0] 62)
 have HAL:=Lib.hid hal
 have HFR:=Lib.hid (four_terms w5)
 have hz8:=(heap_alloc_new w5 (.cells #[.bool true,.int .u64 0] 62))
 have HBW:=Lib.hid (show w5.heap.size < (w5.alloc (.cells #[.bool true,.int .u64 0] 62)).heap.size by rw[World.size_alloc];omega)
 have h8:=H85.out
 have t0:=h8.p0
 have t1:=h8.p1
 have t2:=h8.p2
 have t3:=h8.p3
 clear hrs ho hv HOF HBA HPA H8 HBOA h8 hal hz8
 go_wp2_with fail
 generalize (w5.alloc (.cells #[.bool true,.int .u64 0] 62)).alloc (.cells #[.bool false,.int .u64 0,.bool false,.int .u64 0,.bool true,.int .u64 0,.bool true,.int .u64 0] 62)=w6 at*
 have HST:=Lib.hid (I.sameT_any F1 (some ⟨w5.heap.size+1,0,none⟩) 4 f3 4 4 _ _ w6 (HRT.out.at_size (Nat.le_refl _) HAL.out) HFR.out (by decide) true (by decide))
 refine HST.out.mono ?_
 rintro e w7 ⟨rfl,hv⟩
 have hv7:=HAL.out.trans (hv.mono HAL.out.size)
 have HB7:=Lib.hid (HB5.out.trans (hv7.mono HB5.out.size))
 have h8:=H85.out.keep hv7
 have t0:=h8.p0
 have t1:=h8.p1
 have t2:=h8.p2
 have t3:=h8.p3
 have hn1:n1=4:=by rw[← HP5.out.rp.len,zL_len]
 have HPB:=Lib.hid (I.pairsBounds_any (.iface 74 (.pointer a)) lS (laOf_ok _) zL A1 n1 c1 A2 n2 c2 A3 n3 c3 A4 n4 c4 F1 4 f3 _ 1 w7 (HBO5.out.keep hv7).sl.into (HP5.out.keep hv7) (by omega) (HRT.out.at_size (Nat.le_refl _) hv7))
 unfold senV at HPB
 clear hv hv7 h8 hn1 HST HAL HFR HRT HBO5 HP5 H85 HB5 HBW
 go_wp2_with fail
 refine HPB.out.mono ?_
 rintro e w8 ⟨A9,N9,c9,rfl,ho,hv⟩
 have hbd:I.bdsAns lS zL [(false,0),(false,0),(true,0),(true,0)] 1= []:=by
  unfold I.bdsAns
  rw[bds_L]
  split <;> rfl
 rw[hbd] at ho
 have hN:N9=0:=(Rs.of_own Bo.bdc_len (by decide) ho).len.symm
 subst hN
 have HB8:=Lib.hid (HB7.out.trans (hv.mono HB7.out.size))
 clear hbd ho hv HPB t0 t1 t2 t3
 go_wp2_with fail
 go_ret
 exact⟨rfl,HB8.out⟩
end Go.Proofs.YtmejhedegmjboaaGreat
