import Derived.Test.YtmejhedegmjboaaGreatPaB
set_option maxRecDepth 100000
set_option maxHeartbeats 16000000
namespace Go.Proofs.YtmejhedegmjboaaGreat.I
open Go.RowKit PaC
noncomputable def bdsAns (S:Bo.Sr) (z:Sen) (tl:List Tm) (n:Int):List Bo.Bd:=if tl=trmL S z∧n=(trmN S z:Int) then bds S z else []
theorem RI (w:World)(b:Bo.Bd):Rs Bo.bdc 4 (w.alloc (.cells #[.bool b.av,.int .u64 (b.an:Int),.bool b.bv,.int .u64 (b.bn:Int)] 69)) (w.alloc (.cells #[.bool b.av,.int .u64 (b.an:Int),.bool b.bv,.int .u64 (b.bn:Int)] 69)).heap.size (some ⟨w.heap.size,0,none⟩) 1 1 [b]:=
 Rs.of_blk Bo.Zr (heap_alloc_new w _) ⟨[],rfl⟩ rfl lR (by unfold maxLen;omega)
theorem Qw (S:Bo.Sr)(z:Sen)(m j:Nat):bdsF S z m (j+1)=bdsF S z m j++bdsV S z m j:=by
 unfold bdsF
 rw[List.range_succ,List.flatMap_append]
 simp
theorem Zbx {S:Bo.Sr}{z:Sen}{m v j:Nat}(h:covB S z m v j=true):covBd S z m v (j+1)=covBd S z m v j++ [⟨true,v,true,j⟩]:=by
 unfold covBd
 rw[List.range_succ,List.filter_append,List.filter_cons_of_pos h,List.filter_nil,List.map_append]
 rfl
theorem KO {S:Bo.Sr}{z:Sen}{m v j:Nat}(h:covB S z m v j=false):covBd S z m v (j+1)=covBd S z m v j:=by
 unfold covBd
 rw[List.range_succ,List.filter_append,List.filter_cons_of_neg (by rw[h];simp),List.filter_nil,List.append_nil]
theorem Qx (S:Bo.Sr)(z:Sen)(m v j:Nat):(covBd S z m v j).length≤j:=by
 unfold covBd
 rw[List.length_map]
 have:=List.length_filter_le (covB S z m v) (List.range j)
 rw[List.length_range] at this
 exact this
theorem VG (S:Bo.Sr)(z:Sen)(v:Nat):(lowBd S z v).length≤1:=by
 unfold lowBd
 split
 ·split <;> simp
 ·simp
theorem YS (S:Bo.Sr)(z:Sen)(v:Nat):(highBd S z v).length≤1:=by
 unfold highBd
 split
 ·split <;> simp
 ·simp
theorem Zau (S:Bo.Sr)(z:Sen)(m:Nat): ∀j,(bdsF S z m j).length≤j*(m+2)
 |0=>by simp[bdsF]
 |j+1=>by(
 rw[Qw,List.length_append,Nat.add_mul]
 have h1:=Zau S z m j
 have h2:(bdsV S z m j).length≤m+2:=by(
 unfold bdsV
 rw[List.length_append,List.length_append]
 have:=VG S z j
 have:=YS S z j
 have:=Qx S z m j m
 omega)
 omega)
structure BzI (S:Bo.Sr)(z:Sen)(gl gh go tn g:Nat)(A1:Option Addr)(n1 c1:Nat)(A2:Option Addr)(n2 c2:Nat)(A3:Option Addr)(n3 c3:Nat)(A4:Option Addr)(n4 c4:Nat)(w6:World):Prop where
 l:w6.heap[gl]?=some (.cells (zcl (innL S z tn)) 3 (0,0))
 h:w6.heap[gh]?=some (.cells (zcl (outL S z tn)) 3 (0,0))
 r:Zeq S z go tn w6
 z:ZB w6 g A1 n1 c1 A2 n2 c2 A3 n3 c3 A4 n4 c4
theorem BzI.keep {S:Bo.Sr}{z:Sen}{gl gh go tn g:Nat}{A1:Option Addr}{n1 c1:Nat}{A2:Option Addr}{n2 c2:Nat}{A3:Option Addr}{n3 c3:Nat}{A4:Option Addr}{n4 c4:Nat}{w6 W:World}(h:BzI S z gl gh go tn g A1 n1 c1 A2 n2 c2 A3 n3 c3 A4 n4 c4 w6)(hb:Below w6.heap.size w6 W):BzI S z gl gh go tn g A1 n1 c1 A2 n2 c2 A3 n3 c3 A4 n4 c4 W:=
 ⟨(hb.block _ (Zh h.l)).trans h.l,(hb.block _ (Zh h.h)).trans h.h,h.r.keep hb,h.z.keep hb⟩
structure BzR (w7:World)(gi k:Nat)(L:List Bo.Bd)(A:Option Addr)(N c:Nat)(W:World):Prop where
 o:W.ownsRow w7.heap.size 69 4 (.slice A N c) N (L.flatMap Bo.bdc)
 g:W.heap[gi]?=some (.cells #[.bool true,.int .u64 (k:Int)] 62 (0,0))
 ne:(Value.slice A N c).ownBlock≠some gi
 b:Below w7.heap.size w7 W
theorem BzR.behind {w7:World}{gi k:Nat}{L:List Bo.Bd}{A:Option Addr}{N c:Nat}{W W':World}(h:BzR w7 gi k L A N c W)(hb:Below W.heap.size W W'):BzR w7 gi k L A N c W':=
 ⟨Zi h.o hb,(hb.block _ (Zh h.g)).trans h.g,h.ne,h.b.trans (hb.mono h.b.size)⟩
theorem BzR.add {w7:World}{gi k:Nat}{L:List Bo.Bd}{A:Option Addr}{N c:Nat}{W W':World}(h:BzR w7 gi k L A N c W){b:Bo.Bd}{A':Option Addr}{N' c':Nat}(ha:Appended W W' w7.heap.size 69 4 (.slice A N c) (.slice A' N' c') N' ((L++ [b]).flatMap Bo.bdc)):BzR w7 gi k (L++ [b]) A' N' c' W':=
 ⟨ha.own,(ha.grown.block gi (Zh h.g) fun e=>h.ne e.symm).trans h.g,ha.apart (Zh h.g) h.ne,h.b.grown ha.grown h.b.size fun j hj=>(h.o.lt j hj).1⟩
structure EnR (w:World)(g j bq oq i x gi k:Nat)(n c:Nat):Prop where
 a:w.cell? ⟨g,j,none⟩=some (.slice (some ⟨bq,oq,none⟩) n c)
 x:w.cell? ⟨bq,oq+i,none⟩=some (.int .u64 (x:Int))
 t0:w.cell? ⟨gi,0,none⟩=some (.bool true)
 t1:w.cell? ⟨gi,1,none⟩=some (.int .u64 (k:Int))
theorem UJ (v:Value)(S:Bo.Sr)(hok:S.Ok)(z:Sen)(A1:Option Addr)(n1 c1:Nat)(A2:Option Addr)(n2 c2:Nat)(A3:Option Addr)(n3 c3:Nat)(A4:Option Addr)(n4 c4:Nat)(A:Option Addr)(n c:Nat)(tl:List Tm)(vars:Int)(w:World)(hs:Bo.VH w v S)(h:Zx w z A1 n1 c1 A2 n2 c2 A3 n3 c3 A4 n4 c4)(hn:n1≤300)(hl:Rs tmc 2 w w.heap.size A n c tl):
  Calls Tryz.prog 14 #[v,senV A1 n1 c1 A2 n2 c2 A3 n3 c3 A4 n4 c4,.slice A n c,.int .i64 vars] w fun e w'=> ∃A' N' c',e= .returned (.slice A' N' c')∧w'.ownsRow w.heap.size 69 4 (.slice A' N' c') N' ((bdsAns S z tl vars).flatMap Bo.bdc)∧Below w.heap.size w w':=by
 have hb0:Below w.heap.size w (w.alloc (.cells #[.slice A1 n1 c1,.slice A2 n2 c2,.slice A3 n3 c3,.slice A4 n4 c4] 28)):=bA
 have hz:=ZB.of (heap_alloc_new w (.cells #[.slice A1 n1 c1,.slice A2 n2 c2,.slice A3 n3 c3,.slice A4 n4 c4] 28))
 obtain⟨w1,hw1⟩: ∃w1,w.alloc (.cells #[.slice A1 n1 c1,.slice A2 n2 c2,.slice A3 n3 c3,.slice A4 n4 c4] 28)=w1:=⟨_,rfl⟩
 rw[hw1] at hb0 hz
 have HB0:=Hd hb0
 have HZ:=Hd hz
 have HSEN:Hid (∀W,Below w.heap.size w W→Zx W z A1 n1 c1 A2 n2 c2 A3 n3 c3 A4 n4 c4):=Hd fun W hW=>h.keep hW
 have HSRT:Hid (∀W,Below w.heap.size w W→Bo.VH W v S):=Hd fun W hW=>hs.keep hW
 have HTL:Hid (∀W,Below w.heap.size w W→Rs tmc 2 W W.heap.size A n c tl):=Hd fun W hW=>hl.at_size lR hW
 have HN:=Hd hn
 have HTN:Hid (trmN S z≤300):=Hd (by
 rw[← VS.2]
 have:=cnt_le (cfg S z) (lim z)
 have h1:=h.rp.len
 have:lim z≤z.p.length:=by unfold lim;split <;> omega
 omega)
 have HWH:Hid (∀v,v < trmN S z→Zn z=true):=Hd fun v hv=>RU hv
 have HOK:=Hd hok
 have hcall:=Qi v S z A1 n1 c1 A2 n2 c2 A3 n3 c3 A4 n4 c4 w1 (hs.keep hb0) (h.keep hb0) (by omega)
 have HOF:=Hd hcall
 have z0:=hz.p0
 have z1:=hz.p1
 have z2:=hz.p2
 have z3:=hz.p3
 unfold senV at HOF ⊢
 clear hb0 hz hs h hn hl hok hcall
 go_enter Tryz.func14,Tryz.ntmps14
 go_wp2_with fail
 refine HOF.out.mono ?_
 rintro e w2 ⟨A9,N9,c9,rfl,ho,hv⟩
 have HT9:Hid (Rs tmc 2 w2 w2.heap.size A9 N9 c9 (trmL S z)):=Hd (Rs.of_own ZK (by decide) ho)
 have HB2:=Hd (HB0.out.trans (hv.mono HB0.out.size))
 have hz2:=HZ.out.keep hv
 have HZ2:=Hd hz2
 clear ho hv HOF z0 z1 z2 z3 hw1
 by_cases hvn:vars=(trmN S z:Int)
 case neg=>(
 have g1:((trmN S z:Int) !=vars)=true:=by simp;omega
 have HA:Hid (bdsAns S z tl vars= []):=Hd (by unfold bdsAns;rw[if_neg fun e=>hvn e.2])
 clear hvn hz2
 go_wp2_with fail
 go_ret
 exact⟨none,0,0,rfl,by rw[HA.out];exact World.ownsRow_nil _ _ _ _,HB2.out⟩)
 subst hvn
 have g1:((trmN S z:Int) !=(trmN S z:Int))=false:=by simp
 obtain⟨eq,heq⟩: ∃r,decide (trmL S z=tl)=r:=⟨_,rfl⟩
 have HEQ:=Hd heq
 have HCE:=Hd (Zer A9 A N9 c9 n c (trmL S z) tl w2 HT9.out (HTL.out w2 HB2.out) (by
 have h1:=HT9.out.len
 rw[← VS.1,Yk] at h1
 have h2:=(HSEN.out w (Below.refl _ _)).rp.len
 have h3:=HN.out
 have:lim z≤z.p.length:=by unfold lim;split <;> omega
 omega) eq heq)
 clear heq hz2
 go_wp2_with fail
 refine HCE.out.mono ?_
 rintro e w3 ⟨rfl,hv⟩
 have HB3:=Hd (HB2.out.trans (hv.mono HB2.out.size))
 have hz3:=HZ2.out.keep hv
 have HZ3:=Hd hz3
 clear hv HCE g1
 cases eq with
 |false=>(
 have HA:Hid (bdsAns S z tl (trmN S z:Int)= []):=Hd (by unfold bdsAns;rw[if_neg fun e=>(of_decide_eq_false HEQ.out) e.1.symm])
 clear hz3
 go_wp2_with fail
 go_ret
 exact⟨none,0,0,rfl,by rw[HA.out];exact World.ownsRow_nil _ _ _ _,HB3.out⟩)
 |true=>(
 obtain rfl:trmL S z=tl:=of_decide_eq_true HEQ.out
 have HA:Hid (bdsAns S z (trmL S z) (trmN S z:Int)=bds S z):=Hd (by unfold bdsAns;rw[if_pos ⟨rfl,rfl⟩])
 have HSE:=Hd fun (but:Nat) W (hW:Below w.heap.size w W)=>Zfo but S z A1 n1 c1 A2 n2 c2 A3 n3 c3 A4 n4 c4 A n c W (HSEN.out W hW) (by have:=HN.out;omega) (HTL.out W hW)
 have HUN:=Hd fun (g1 g2:Nat) W (hW:Below w.heap.size w W) (h1:W.heap[g1]?=some (.cells (zcl (outL S z (trmN S z))) 3 (0,0))) (h2:W.heap[g2]?=some (.cells (zcl (innL S z (trmN S z))) 3 (0,0)))=>Zex v S z A1 n1 c1 A2 n2 c2 A3 n3 c3 A4 n4 c4 g1 g2 W (HSRT.out W hW) (HSEN.out W hW) (by have:=HN.out;omega) h1 h2
 have HEN:=Hd fun W (hW:Below w.heap.size w W)=>UU v S W (HSRT.out W hW)
 unfold senV at HSE HUN
 have hbds:bds S z=bdsF S z (trmN S z) (trmN S z):=rfl
 have HBDS:=Hd hbds
 generalize htn:trmN S z=tn at*
 have HTT:=Hd htn
 clear hbds htn
 go_wp2_with fail
 refine wro [0,1,2,4,5,6,3,7,8,9] [3,7] 10 (fun W=>ZB W w.heap.size A1 n1 c1 A2 n2 c2 A3 n3 c3 A4 n4 c4) (by kernel_rfl) (fun _ _ _ _ _ h=>h) ⟨hz3.p0,hz3.p1,hz3.p2,hz3.p3⟩ ?_
 simp only[steps,sE,sD]
 clear hz3
 repeat((first|refine Zf rfl ?_|(refine Zd (v:= ?_) rfl rfl ?_ ?_;rotate_left;(focus(rintro w' ⟨x0,x1,x2,x3⟩;go_simp;try with_reducible rfl))));simp only[Act.put,sA,sB,sC])
 have HBD:=Hd ((Below.refl w3.heap.size w3).drew)
 have HZd:=Hd (HZ3.out.keep HBD.out)
 have HBdw:=Hd (HB3.out.trans (HBD.out.mono HB3.out.size))
 generalize World.drew _=wd at*
 refine Ze rfl rfl (fun K hK=> ?_)
 go_simp
 refine(HSE.out 1 wd HBdw.out).mono ?_
 rintro e w4 ⟨gl,rfl,hg,hk,hv⟩
 have HGL:Hid (w4.heap[gl]?=some (.cells (zcl (innL S z tn)) 3 (0,0))):=Hd hk
 have HZ4:=Hd (HZd.out.keep hv)
 have HB4:=Hd (HBdw.out.trans (hv.mono HBdw.out.size))
 refine hK.out _ _ (fun _=>HZ4.out) ?_
 clear hK K hg hk hv
 try simp only[Act.put,sA,sB,sC]
 repeat((first|refine Zf rfl ?_|(refine Zd (v:= ?_) rfl rfl ?_ ?_;rotate_left;(focus(rintro w' ⟨x0,x1,x2,x3⟩;go_simp;try with_reducible rfl))));simp only[Act.put,sA,sB,sC])
 refine Ze rfl rfl (fun K hK=> ?_)
 go_simp
 refine(HSE.out 0 w4 HB4.out).mono ?_
 rintro e w5 ⟨gh,rfl,hg,hk,hv⟩
 have HGH:Hid (w5.heap[gh]?=some (.cells (zcl (outL S z tn)) 3 (0,0))):=Hd hk
 have HGL5:=Hd ((hv.block gl (Zh HGL.out)).trans HGL.out)
 have HZ5:=Hd (HZ4.out.keep hv)
 have HB5:=Hd (HB4.out.trans (hv.mono HB4.out.size))
 refine hK.out _ _ (fun _=>HZ5.out) ?_
 clear hK K hg hk hv HGL HSE
 try simp only[Act.put,sA,sB,sC]
 repeat((first|refine Zf rfl ?_|(refine Zd (v:= ?_) rfl rfl ?_ ?_;rotate_left;(focus(rintro w' ⟨x0,x1,x2,x3⟩;go_simp;try with_reducible rfl))));simp only[Act.put,sA,sB,sC])
 refine Zg ?_
 go_wp2_with fail
 refine(HEN.out w5 HB5.out).mono ?_
 rintro e w6 ⟨rfl,hv⟩
 have HB6:=Hd (HB5.out.trans (hv.mono HB5.out.size))
 have HGL6:=Hd ((hv.block gl (Zh HGL5.out)).trans HGL5.out)
 have HGH6:=Hd ((hv.block gh (Zh HGH.out)).trans HGH.out)
 have hz6:=HZ5.out.keep hv
 have HZ6:=Hd hz6
 have y0:=hz6.p0
 have y1:=hz6.p1
 have y2:=hz6.p2
 have y3:=hz6.p3
 clear hv hz6 HEN
 go_wp2_with fail
 refine(HUN.out gh gl w6 HB6.out HGH6.out HGL6.out).mono ?_
 rintro e w7 ⟨go,us,wu,rfl,hun,hv⟩
 have HBI:Hid (BzI S z gl gh go tn w.heap.size A1 n1 c1 A2 n2 c2 A3 n3 c3 A4 n4 c4 w7):=Hd ⟨(hv.block gl (Zh HGL6.out)).trans HGL6.out,(hv.block gh (Zh HGH6.out)).trans HGH6.out,hun.rows,HZ6.out.keep hv⟩
 have HB7:=Hd (HB6.out.trans (hv.mono HB6.out.size))
 clear hun hv HUN y0 y1 y2 y3
 go_wp2_with fail
 go_loopw [16,56] (fun v16 v56 wr=> ∃(k:Nat) (A5:Option Addr) (N5 c5:Nat),v16= .slice A5 N5 c5∧v56= .int .i64 (k:Int)∧k≤tn∧wr.ownsRow w7.heap.size 69 4 (.slice A5 N5 c5) N5 ((bdsF S z tn k).flatMap Bo.bdc)∧Below w7.heap.size w7 wr) (fun _ v56 _=>tn - (intOf v56).toNat)
 case atStart=>exact⟨0,none,0,0,rfl,rfl,Nat.zero_le _,World.ownsRow_nil _ _ _ _,Below.refl _ _⟩
 case round=>(
 obtain⟨k,A5,N5,c5,rfl,rfl,hk,hown,hb⟩:=hrel
 by_cases hlt:k < tn
 ·(
 have hw:=HWH.out k hlt
 have HW:=Hd hw
 have HLT:=Hd hlt
 have hin:(k:Int) < (tn:Int):=by omega
 have hk9:k≤60000:=by have:=HTN.out;omega
 have hwk:IntKind.u64.wrap (k:Int)=(k:Int):=by rw[IntKind.wrap_u64];omega
 have hal:Below wr.heap.size wr (wr.alloc (.cells #[.bool true,.int .u64 (k:Int)] 62)):=bA
 have HR0:Hid (BzR w7 wr.heap.size k (bdsF S z tn k) A5 N5 c5 (wr.alloc (.cells #[.bool true,.int .u64 (k:Int)] 62))):=Hd ⟨Zi hown hal,heap_alloc_new wr _,fun e=>by have:=(hown.lt _ e).2;omega,hb.trans (hal.mono hb.size)⟩
 have HLEN:Hid ((bdsF S z tn k).length≤91000):=Hd (by
 have h1:=Zau S z tn k
 have h2:k*(tn+2)≤300*302:=Nat.mul_le_mul (by have:=HTN.out;omega) (by have:=HTN.out;omega)
 omega)
 have HSP:Hid (∀d,((cfg S z).out k=some d∨(cfg S z).inn k=some d)→d < z.p.length):=Hd fun d e=>e.elim (fun e=>(ZeO e).1) fun e=>(ZeN e).1
 have HSW:=HSEN.out w (Below.refl _ _)
 obtain⟨a1,a2,a3,a4,a5⟩:=ZE.1 hw
 have hl1:=HSW.rp.len
 have hl2:=HSW.rl.len
 have hl3:=HSW.rh.len
 have HLS:Hid (z.p.length=n1∧z.lo.length=n1∧z.hi.length=n1∧n2=n1∧n3=n1):=Hd (by omega)
 have HSWW:=Hd HSW
 clear hk hlt hw hown hb hal a1 a2 a3 a4 a5 hl1 hl2 hl3 HSW
 obtain⟨gi,hgi⟩: ∃b,wr.heap.size=b:=⟨_,rfl⟩
 obtain⟨w8,hw8⟩: ∃w8,wr.alloc (.cells #[.bool true,.int .u64 (k:Int)] 62)=w8:=⟨_,rfl⟩
 rw[hgi,hw8] at HR0
 have HBT:=Hd (show S.bot < 18446744073709551616∧S.top < 18446744073709551616 from⟨HOK.out.fitb,HOK.out.fitt⟩)
 have d0:=(Zb (i:=k) (HBI.out.keep HR0.out.b).l).trans (Zbb (by rw[innL,VD];exact HLT.out))
 rw[Zjv HW.out HLT.out] at d0
 obtain⟨uz,huz⟩: ∃x,(cfg S z).inn k=x:=⟨_,rfl⟩
 rw[huz] at d0
 have HOZ:=Hd huz
 clear huz
 rcases uz with _|u
 focus(
 replace d0:w8.cell? ⟨_,k,none⟩=some (.int .i64 (-1)):=d0
 have HE:Hid (lowBd S z k= []):=Hd (by unfold lowBd;rw[HOZ.out])
 have HR6:Hid (BzR w7 gi k (bdsF S z tn k++lowBd S z k) A5 N5 c5 w8):=Hd (by rw[HE.out,List.append_nil];exact HR0.out)
 go_upto_region 15 with(fail)
 obtain⟨A6,rfl⟩: ∃x,x=A5:=⟨_,rfl⟩
 obtain⟨N6,rfl⟩: ∃x,x=N5:=⟨_,rfl⟩
 obtain⟨c6,rfl⟩: ∃x,x=c5:=⟨_,rfl⟩
 obtain⟨w9,rfl⟩: ∃x,x=w8:=⟨_,rfl⟩)
 rotate_left
 focus(
 replace d0:w8.cell? ⟨_,k,none⟩=some (.int .i64 (u:Int)):=d0
 have hu0:decide ((u:Int)≥0)=true:=decide_eq_true (by omega)
 have hun:=HSP.out u (.inr HOZ.out)
 obtain⟨bq,oq,hAq,xu,fu⟩:=ZG HSWW.out.rl HSWW.out.fl (i:=u) (by have:=HLS.out;omega)
 have hvu:lw z u=_:=KA (by have:=HLS.out;omega)
 rw[← hvu] at xu fu
 have hz8:=(HBI.out.keep HR0.out.b).z
 have zq:=hz8.p1
 rw[hAq] at zq
 have hxu:=Za xu (HB7.out.trans (HR0.out.b.mono HB7.out.size))
 have HENR:Hid (∀W,Below w7.heap.size w7 W→W.heap[gi]?=some (.cells #[.bool true,.int .u64 (k:Int)] 62 (0,0))→EnR W w.heap.size 1 bq oq u (lw z u) gi k n2 c2):=Hd fun W hW hg=>by(
 have h1:=(HBI.out.keep hW).z.p1
 rw[hAq] at h1
 exact⟨h1,Za xu (HB7.out.trans (hW.mono HB7.out.size)),(Zb (i:=0) hg).trans rfl,(Zb (i:=1) hg).trans rfl⟩)
 have hunn:(u:Int) < (n2:Int):=by have:=HLS.out;omega
 have hu9:u≤60000:=by have:=HLS.out;have:=HN.out;omega
 have HBD1:Hid (lowBd S z k=if lw z u=S.bot then [] else [⟨false,lw z u,true,k⟩]):=Hd (by unfold lowBd;rw[HOZ.out])
 obtain⟨vu,hvv⟩: ∃x,lw z u=x:=⟨_,rfl⟩
 rw[hvv] at hxu HENR HBD1
 clear hun xu fu hvu hAq hz8 hvv
 by_cases hve:vu=S.bot
 focus(
 have g2:((vu:Int) !=(S.bot:Int))=false:=by rw[hve];simp
 have HE:Hid (lowBd S z k= []):=Hd (by rw[HBD1.out,if_pos hve])
 have HR6:Hid (BzR w7 gi k (bdsF S z tn k++lowBd S z k) A5 N5 c5 w8):=Hd (by rw[HE.out,List.append_nil];exact HR0.out)
 clear hve
 go_upto_region 15 with(fail)
 clear zq hxu g2 hu0 HENR HBD1 hunn
 obtain⟨A6,rfl⟩: ∃x,x=A5:=⟨_,rfl⟩
 obtain⟨N6,rfl⟩: ∃x,x=N5:=⟨_,rfl⟩
 obtain⟨c6,rfl⟩: ∃x,x=c5:=⟨_,rfl⟩
 obtain⟨w9,rfl⟩: ∃x,x=w8:=⟨_,rfl⟩)
 rotate_left
 focus(
 have g2:((vu:Int) !=(S.bot:Int))=true:=by simp;omega
 have HE:Hid (lowBd S z k= [⟨false,vu,true,k⟩]):=Hd (by rw[HBD1.out,if_neg hve])
 clear hve
 go_wp2_with fail
 have her:=HENR.out w8 HR0.out.b HR0.out.g
 refine wro [0,1,2,3,4,5,6,7,8,9,10,11] [9,10] 12 (fun W=>EnR W w.heap.size 1 bq oq u vu gi k n2 c2) (by kernel_rfl) (fun _ _ _ _ _ h=>h) ⟨her.a,her.x,her.t0,her.t1⟩ ?_
 simp only[steps,sE,sD]
 clear her zq hxu g2 hu0
 repeat((first|refine Zf rfl ?_|(refine Zd (v:= ?_) rfl rfl ?_ ?_;rotate_left;(focus(rintro w' ⟨x0,x1,x2,x3⟩;go_simp;try with_reducible rfl))));simp only[Act.put,sA,sB,sC])
 have HRD:=Hd (HR0.out.behind ((Below.refl w8.heap.size w8).drew))
 generalize World.drew _=wd at*
 have HO:=Hd (RI wd ⟨false,vu,true,k⟩)
 have HAL:=Hd (show Below wd.heap.size wd (wd.alloc (.cells #[.bool false,.int .u64 (vu:Int),.bool true,.int .u64 (k:Int)] 69)) from bA)
 have HRA:=Hd (HRD.out.behind HAL.out)
 have hsz2:w7.heap.size≤(wd.alloc (.cells #[.bool false,.int .u64 (vu:Int),.bool true,.int .u64 (k:Int)] 69)).heap.size:=HRA.out.b.size
 have HN1:Hid (N5+1≤100000):=Hd (by
 have h1:=Zl Bo.Zr (by decide) HRD.out.o
 have:=HLEN.out
 have:=VG S z k
 try simp only[List.length_append] at h1
 omega)
 refine Ze rfl rfl (fun K hK=> ?_)
 go_simp
 refine hK.out _ _ (fun _=>HENR.out _ HRA.out.b HRA.out.g) ?_
 clear hK K
 try simp only[Act.put,sA,sB,sC]
 refine Ze rfl rfl (fun K hK=> ?_)
 refine Bo.Z9 Bo.Zr (by decide) Bo.YK Tryz.underlying42 Bo.YL rfl (by decide) (.tmp 77) (.tmp 86) rfl w7.heap.size _ N5 _ rfl HRA.out.o _ _ 1 1 [⟨false,vu,true,k⟩] rfl HO.out HN1.out hsz2 ?_
 intro A6 N6 c6 wn HKK HA'
 have HRN:=Hd (HRA.out.add HA'.out)
 have HR6:Hid (BzR w7 gi k (bdsF S z tn k++lowBd S z k) A6 N6 c6 wn):=Hd (by rw[HE.out];exact HRN.out)
 refine hK.out _ _ (fun _=>HENR.out wn HRN.out.b HRN.out.g) ?_
 clear hK K HKK HA' HO HAL HRA hsz2 HRD HRN HN1
 try simp only[Act.put,sA,sB,sC]
 repeat((first|refine Zf rfl ?_|(refine Zd (v:= ?_) rfl rfl ?_ ?_;rotate_left;(focus(rintro w' ⟨x0,x1,x2,x3⟩;go_simp;try with_reducible rfl))));simp only[Act.put,sA,sB,sC])
 refine Zg ?_
 go_upto_region 15 with(fail)
 clear HENR HBD1 hunn
 obtain⟨w9,rfl⟩: ∃x,x=wn:=⟨_,rfl⟩))
 all_goals(
 have d0:=(Zb (i:=k) (HBI.out.keep HR6.out.b).h).trans (Zbb (by rw[outL,VD];exact HLT.out))
 rw[Zju HW.out HLT.out] at d0)
 all_goals(
 obtain⟨uz,huz⟩: ∃x,(cfg S z).out k=x:=⟨_,rfl⟩
 rw[huz] at d0
 have HOZ:=Hd huz
 clear huz
 rcases uz with _|u
 focus(
 replace d0:w9.cell? ⟨_,k,none⟩=some (.int .i64 (-1)):=d0
 have HE:Hid (highBd S z k= []):=Hd (by unfold highBd;rw[HOZ.out])
 have HR7:Hid (BzR w7 gi k (bdsF S z tn k++lowBd S z k++highBd S z k) A6 N6 c6 w9):=Hd (by rw[HE.out,List.append_nil];exact HR6.out)
 go_upto_region 18 with(fail)
 obtain⟨A7,rfl⟩: ∃x,x=A6:=⟨_,rfl⟩
 obtain⟨N7,rfl⟩: ∃x,x=N6:=⟨_,rfl⟩
 obtain⟨c7,rfl⟩: ∃x,x=c6:=⟨_,rfl⟩
 obtain⟨wr,rfl⟩: ∃x,x=w9:=⟨_,rfl⟩)
 rotate_left
 focus
  replace d0:w9.cell? ⟨_,k,none⟩=some (.int .i64 (u:Int)):=d0
  have hu0:decide ((u:Int)≥0)=true:=decide_eq_true (by omega)
  have hun:=HSP.out u (.inl HOZ.out)
  obtain⟨bq,oq,hAq,xu,fu⟩:=ZG HSWW.out.rh HSWW.out.fh (i:=u) (by have:=HLS.out;omega)
  have hvu:hg z u=_:=Y1 (by have:=HLS.out;omega)
  rw[← hvu] at xu fu
  have hz8:=(HBI.out.keep HR6.out.b).z
  have zq:=hz8.p2
  rw[hAq] at zq
  have hxu:=Za xu (HB7.out.trans (HR6.out.b.mono HB7.out.size))
  have HENR:Hid (∀W,Below w7.heap.size w7 W→W.heap[gi]?=some (.cells #[.bool true,.int .u64 (k:Int)] 62 (0,0))→EnR W w.heap.size 2 bq oq u (hg z u) gi k n3 c3):=Hd fun W hW hg=>by(
 have h1:=(HBI.out.keep hW).z.p2
 rw[hAq] at h1
 exact⟨h1,Za xu (HB7.out.trans (hW.mono HB7.out.size)),(Zb (i:=0) hg).trans rfl,(Zb (i:=1) hg).trans rfl⟩)
  have hunn:(u:Int) < (n3:Int):=by have:=HLS.out;omega
  have hu9:u≤60000:=by have:=HLS.out;have:=HN.out;omega
  have HBD1:Hid (highBd S z k=if hg z u=S.top then [] else [⟨true,k,false,hg z u⟩]):=Hd (by unfold highBd;rw[HOZ.out])
  obtain⟨vu,hvv⟩: ∃x,hg z u=x:=⟨_,rfl⟩
  rw[hvv] at hxu HENR HBD1
  clear hun xu fu hvu hAq hz8 hvv
  by_cases hve:vu=S.top
  focus(
 have g2:((vu:Int) !=(S.top:Int))=false:=by rw[hve];simp
 have HE:Hid (highBd S z k= []):=Hd (by rw[HBD1.out,if_pos hve])
 have HR7:Hid (BzR w7 gi k (bdsF S z tn k++lowBd S z k++highBd S z k) A6 N6 c6 w9):=Hd (by rw[HE.out,List.append_nil];exact HR6.out)
 clear hve
 go_upto_region 18 with(fail)
 clear zq hxu g2 hu0 HENR HBD1 hunn
 obtain⟨A7,rfl⟩: ∃x,x=A6:=⟨_,rfl⟩
 obtain⟨N7,rfl⟩: ∃x,x=N6:=⟨_,rfl⟩
 obtain⟨c7,rfl⟩: ∃x,x=c6:=⟨_,rfl⟩
 obtain⟨wr,rfl⟩: ∃x,x=w9:=⟨_,rfl⟩)
  rotate_left
  focus
   have g2:((vu:Int) !=(S.top:Int))=true:=by simp;omega
   have HE:Hid (highBd S z k= [⟨true,k,false,vu⟩]):=Hd (by rw[HBD1.out,if_neg hve])
   clear hve
   go_wp2_with fail
   have her:=HENR.out w9 HR6.out.b HR6.out.g
   refine wro [0,1,2,3,4,5,6,7,8,9,10,11] [9,10] 12 (fun W=>EnR W w.heap.size 2 bq oq u vu gi k n3 c3) (by kernel_rfl) (fun _ _ _ _ _ h=>h) ⟨her.a,her.x,her.t0,her.t1⟩ ?_
   simp only[steps,sE,sD]
   clear her zq hxu g2 hu0
   repeat((first|refine Zf rfl ?_|(refine Zd (v:= ?_) rfl rfl ?_ ?_;rotate_left;(focus(rintro w' ⟨x0,x1,x2,x3⟩;go_simp;try with_reducible rfl))));simp only[Act.put,sA,sB,sC])
   have HRD:=Hd (HR6.out.behind ((Below.refl w9.heap.size w9).drew))
   generalize World.drew _=wd at*
   have HO:=Hd (RI wd ⟨true,k,false,vu⟩)
   have HAL:=Hd (show Below wd.heap.size wd (wd.alloc (.cells #[.bool true,.int .u64 (k:Int),.bool false,.int .u64 (vu:Int)] 69)) from bA)
   have HRA:=Hd (HRD.out.behind HAL.out)
   have hsz2:w7.heap.size≤(wd.alloc (.cells #[.bool true,.int .u64 (k:Int),.bool false,.int .u64 (vu:Int)] 69)).heap.size:=HRA.out.b.size
   have HN1:Hid (N6+1≤100000):=Hd (by
 have h1:=Zl Bo.Zr (by decide) HRD.out.o
 have:=HLEN.out
 have:=VG S z k
 try simp only[List.length_append] at h1
 omega)
   refine Ze rfl rfl (fun K hK=> ?_)
   go_simp
   refine hK.out _ _ (fun _=>HENR.out _ HRA.out.b HRA.out.g) ?_
   clear hK K
   try simp only[Act.put,sA,sB,sC]
   refine Ze rfl rfl (fun K hK=> ?_)
   refine Bo.Z9 Bo.Zr (by decide) Bo.YK Tryz.underlying42 Bo.YL rfl (by decide) (.tmp 103) (.tmp 112) rfl w7.heap.size _ N6 _ rfl HRA.out.o _ _ 1 1 [⟨true,k,false,vu⟩] rfl HO.out HN1.out hsz2 ?_
   intro A7 N7 c7 wn HKK HA'
   have HRN:=Hd (HRA.out.add HA'.out)
   have HR7:Hid (BzR w7 gi k (bdsF S z tn k++lowBd S z k++highBd S z k) A7 N7 c7 wn):=Hd (by rw[HE.out];exact HRN.out)
   refine hK.out _ _ (fun _=>HENR.out wn HRN.out.b HRN.out.g) ?_
   clear hK K HKK HA' HO HAL HRA hsz2 HRD HRN HN1
   try simp only[Act.put,sA,sB,sC]
   repeat((first|refine Zf rfl ?_|(refine Zd (v:= ?_) rfl rfl ?_ ?_;rotate_left;(focus(rintro w' ⟨x0,x1,x2,x3⟩;go_simp;try with_reducible rfl))));simp only[Act.put,sA,sB,sC])
   refine Zg ?_
   go_upto_region 18 with(fail)
   clear HENR HBD1 hunn
   obtain⟨wr,rfl⟩: ∃x,x=wn:=⟨_,rfl⟩)
 all_goals(
 go_wp2_with fail
 obtain⟨wo,rfl⟩: ∃wo,wo=wr:=⟨_,rfl⟩
 go_loopw [16,115] (fun v16 v115 wq=> ∃(j:Nat) (A:Option Addr) (N c:Nat),v16= .slice A N c∧v115= .int .i64 (j:Int)∧j≤tn∧BzR w7 gi k (bdsF S z tn k++(lowBd S z k++(highBd S z k++covBd S z tn k j))) A N c wq) (fun _ v115 _=>tn - (intOf v115).toNat)
 case atStart=>exact⟨0,A7,N7,c7,rfl,rfl,Nat.zero_le _,by
  have h:=HR7.out
  rw[List.append_assoc] at h
  have e0:covBd S z tn k 0= []:=rfl
  rw[e0,List.append_nil]
  exact h⟩
 case round=>
  clear HR6 HR7
  obtain⟨j,A,N,c,rfl,rfl,hj,hR⟩:=hrel
  have HRJ:=Hd hR
  by_cases hltj:j < tn
  ·(
 have hrows:=(HBI.out.keep hR.b).r
 have HROWS:=Hd hrows
 obtain⟨b8,c8,r1,r2⟩:=hrows k HLT.out
 have r3:=r2 j hltj
 obtain⟨x,hx⟩: ∃x,undB S z k j=x:=⟨_,rfl⟩
 obtain⟨y,hy⟩: ∃y,btwB S z tn k j=y:=⟨_,rfl⟩
 rw[hx] at r3
 have HBW:=Hd (Zck S z go tn k j wr HROWS.out HLT.out hltj (by have:=HTN.out;omega) y hy)
 have HCOV:Hid (covB S z tn k j=(x && !y)):=Hd (by rw[ZgH,hx,hy])
 have HLTJ:=Hd hltj
 have hinj:(j:Int) < (tn:Int):=by omega
 have hj9:j≤60000:=by have:=HTN.out;omega
 have hwj:IntKind.u64.wrap (j:Int)=(j:Int):=by rw[IntKind.wrap_u64];omega
 have HN1:Hid (N+1≤100000):=Hd (by
 have h1:=Zl Bo.Zr (by decide) hR.o
 rw[List.length_append,List.length_append,List.length_append] at h1
 have:=HLEN.out
 have:=VG S z k
 have:=YS S z k
 have:=Qx S z tn k j
 have:=HTN.out
 omega)
 clear hj hR hltj hrows r2 hx hy
 cases x with
 |false=>(
 have HNX:=Hd (KO HCOV.out)
 go_wp2_with fail
 go_roundw
 case rel=>exact⟨j+1,A,N,c,rfl,by go_num,HLTJ.out,by rw[HNX.out];exact HRJ.out⟩
 case measure=>(
 have:=HLTJ.out
 simp[intOf]
 omega))
 |true=>(
 go_wp2_with fail
 refine HBW.out.mono ?_
 rintro e wb ⟨rfl,rfl⟩
 cases y with
 |true=>(
 have HNX:=Hd (KO HCOV.out)
 go_wp2_with fail
 go_roundw
 case rel=>exact⟨j+1,A,N,c,rfl,by go_num,HLTJ.out,by rw[HNX.out];exact HRJ.out⟩
 case measure=>(
 have:=HLTJ.out
 simp[intOf]
 omega))
 |false=>(
 have HNX:=Hd (Zbx HCOV.out)
 have t0:=(Zb (i:=0) HRJ.out.g).trans rfl
 have t1:=(Zb (i:=1) HRJ.out.g).trans rfl
 have HO:=Hd (RI wr ⟨true,k,true,j⟩)
 have HAL:=Hd (show Below wr.heap.size wr (wr.alloc (.cells #[.bool true,.int .u64 (k:Int),.bool true,.int .u64 (j:Int)] 69)) from bA)
 have HRA:=Hd (HRJ.out.behind HAL.out)
 have hsz2:w7.heap.size≤(wr.alloc (.cells #[.bool true,.int .u64 (k:Int),.bool true,.int .u64 (j:Int)] 69)).heap.size:=HRA.out.b.size
 go_wp2_with (at_builtin;refine Zk Bo.Zr (by decide) Bo.YK Tryz.underlying42 Bo.YL rfl (by decide) rfl (.tmp 132) (.tmp 138) rfl w7.heap.size _ N _ rfl HRA.out.o _ _ 1 1 [⟨true,k,true,j⟩] rfl HO.out HN1.out hsz2 ?_;intro A' k' c' w' HK HAA)
 go_roundw
 case rel=>exact⟨j+1,A',k',c',rfl,by go_num,HLTJ.out,by
  have h:=HRA.out.add HAA.out
  rw[List.append_assoc,List.append_assoc,List.append_assoc] at h
  rw[HNX.out]
  exact h⟩
 case measure=>(
 have:=HLTJ.out
 simp[intOf]
 omega))))
  ·obtain rfl:tn=j:=by omega
   have HOO:Hid (wr.ownsRow w7.heap.size 69 4 (.slice A N c) N ((bdsF S z tn (k+1)).flatMap Bo.bdc)):=Hd (by rw[Qw];exact hR.o)
   have HBB:=Hd hR.b
   clear hj hR hltj HRJ
   go_wp2_with fail
   go_roundw
   case rel=>exact⟨k+1,A,N,c,rfl,by go_num,HLT.out,HOO.out,HBB.out⟩
   case measure=>
    have:=HLT.out
    simp[intOf]
    omega))
 ·(
 obtain rfl:tn=k:=by omega
 have HO:Hid (wr.ownsRow w.heap.size 69 4 (.slice A5 N5 c5) N5 ((bdsAns S z (trmL S z) (trmN S z:Int)).flatMap Bo.bdc)):=Hd (by rw[HTT.out,HA.out,HBDS.out];exact Va hown HB7.out.size)
 have HBW:=Hd (HB7.out.trans (hb.mono HB7.out.size))
 clear hlt hk hown hb
 go_wp2_with fail
 go_ret
 exact⟨A5,N5,c5,rfl,HO.out,HBW.out⟩)))
end Go.Proofs.YtmejhedegmjboaaGreat.I
