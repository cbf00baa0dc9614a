/- PairsPlain is true: what bounds look like. Condition: none but those of the statement. -/
import Derived.Test.YtmejhedegmjboaaGreatRows
import Derived.Test.YtmejhedegmjboaaGreatKp
import Derived.Test.YtmejhedegmjboaaGreatPaLv
namespace Go.Proofs.YtmejhedegmjboaaGreat.I
open Go.RowKit PaC
def LooksB (S:Bo.Sr)(b:Bo.Bd):Prop:=(b.av=false∧b.bv=true∧b.an≠S.bot)∨(b.av=true∧b.bv=false∧b.bn≠S.top)∨(b.av=true∧b.bv=true∧b.an≠b.bn)
def ownB (b:Bo.Bd):Nat:=if b.av=true then b.an else b.bn
theorem lowBd_is {S:Bo.Sr}{z:Sen}{v:Nat}{b:Bo.Bd}(h:b∈lowBd S z v):b.av=false∧b.bv=true∧b.an≠S.bot∧b.bn=v:=by
 unfold lowBd at h
 split at h
 ·split at h
  ·cases h
  ·next u hu hne=>
   obtain rfl:=List.mem_singleton.1 h
   exact⟨rfl,rfl,hne,rfl⟩
 ·cases h
theorem highBd_is {S:Bo.Sr}{z:Sen}{v:Nat}{b:Bo.Bd}(h:b∈highBd S z v):b.av=true∧b.bv=false∧b.bn≠S.top∧b.an=v:=by
 unfold highBd at h
 split at h
 ·split at h
  ·cases h
  ·next u hu hne=>
   obtain rfl:=List.mem_singleton.1 h
   exact⟨rfl,rfl,hne,rfl⟩
 ·cases h
theorem covBd_is {S:Bo.Sr}{z:Sen}{m v j:Nat}{b:Bo.Bd}(h:b∈covBd S z m v j):b.av=true∧b.bv=true∧b.an≠b.bn∧b.an=v:=by
 unfold covBd at h
 obtain⟨w,hw,rfl⟩:=List.mem_map.1 h
 have hc:=(List.mem_filter.1 hw).2
 unfold covB undB at hc
 rw[Bool.and_eq_true,Bool.and_eq_true] at hc
 refine⟨rfl,rfl,fun e=> ?_,rfl⟩
 have h1:=hc.1.1
 simp at h1
 exact h1 e
theorem lowBd_nodup (S:Bo.Sr)(z:Sen)(v:Nat):(lowBd S z v).Pairwise (· ≠ ·):=by
 unfold lowBd
 split
 ·split <;> simp
 ·simp
theorem highBd_nodup (S:Bo.Sr)(z:Sen)(v:Nat):(highBd S z v).Pairwise (· ≠ ·):=by
 unfold highBd
 split
 ·split <;> simp
 ·simp
theorem covBd_nodup (S:Bo.Sr)(z:Sen)(m v j:Nat):(covBd S z m v j).Pairwise (· ≠ ·):=by
 unfold covBd
 refine List.Pairwise.map _ (fun a b h e=>h ?_) (List.nodup_range.filter _)
 injection e
theorem bdsV_own {S:Bo.Sr}{z:Sen}{m v:Nat}{b:Bo.Bd}(h:b∈bdsV S z m v):LooksB S b∧ownB b=v:=by
 unfold bdsV at h
 rw[List.mem_append,List.mem_append] at h
 unfold ownB
 rcases h with h|h|h
 ·obtain⟨h1,h2,h3,h4⟩:=lowBd_is h
  exact⟨.inl ⟨h1,h2,h3⟩,by rw[h1];exact h4⟩
 ·obtain⟨h1,h2,h3,h4⟩:=highBd_is h
  exact⟨.inr (.inl ⟨h1,h2,h3⟩),by rw[if_pos h1];exact h4⟩
 ·obtain⟨h1,h2,h3,h4⟩:=covBd_is h
  exact⟨.inr (.inr ⟨h1,h2,h3⟩),by rw[if_pos h1];exact h4⟩
theorem bds_plain (S:Bo.Sr)(z:Sen):(∀b∈bds S z,LooksB S b)∧(bds S z).Pairwise (· ≠ ·):=by
 unfold bds bdsF
 refine⟨fun b hb=> ?_,List.pairwise_flatMap.2 ⟨fun v _=> ?_,?_⟩⟩
 ·obtain⟨v,-,h⟩:=List.mem_flatMap.1 hb
  exact(bdsV_own h).1
 ·unfold bdsV
  refine List.pairwise_append.2 ⟨lowBd_nodup S z v,List.pairwise_append.2 ⟨highBd_nodup S z v,covBd_nodup S z _ v _,fun a ha b hb e=> ?_⟩,fun a ha b hb e=> ?_⟩
  ·subst e
   have h1:=(highBd_is ha).2.1
   have h2:=(covBd_is hb).2.1
   rw[h1] at h2
   cases h2
  ·subst e
   have h1:=(lowBd_is ha).1
   rcases List.mem_append.1 hb with hb|hb
   ·have h2:=(highBd_is hb).1
    rw[h1] at h2
    cases h2
   ·have h2:=(covBd_is hb).1
    rw[h1] at h2
    cases h2
 ·refine List.nodup_range.imp fun {a b} h x hx y hy e=>h ?_
  subst e
  exact(bdsV_own hx).2.symm.trans (bdsV_own hy).2
theorem plain_at {S:Bo.Sr}{z:Sen}{l:List Bo.Bd}(h:l=bds S z){i:Nat}(hi:i < l.length):LooksB S l[i]∧ ∀j (_:j < i) (_:j < l.length),l[j]≠l[i]:=by
 subst h
 exact⟨(bds_plain S z).1 _ (List.getElem_mem hi),fun j q q1=>List.pairwise_iff_getElem.1 (bds_plain S z).2 j i q1 hi q⟩
theorem bd_cases {s t:Bo.Bd}(h:s≠t):s.av≠t.av∨(s.av=t.av∧s.an≠t.an)∨(s.av=t.av∧s.an=t.an∧s.bv≠t.bv)∨(s.av=t.av∧s.an=t.an∧s.bv=t.bv∧s.bn≠t.bn):=by
 obtain⟨a,b,c,d⟩:=s
 obtain⟨a',b',c',d'⟩:=t
 by_cases h1:a=a'
 ·by_cases h2:b=b'
  ·by_cases h3:c=c'
   ·by_cases h4:d=d'
    ·exact absurd (by rw[h1,h2,h3,h4]) h
    ·exact .inr (.inr (.inr ⟨h1,h2,h3,h4⟩))
   ·exact .inr (.inr (.inl ⟨h1,h2,h3⟩))
  ·exact .inr (.inl ⟨h1,h2⟩)
 ·exact .inl h1
end Go.Proofs.YtmejhedegmjboaaGreat.I
namespace Go.Proofs.YtmejhedegmjboaaGreat.pairsPlain
open Go.ChangeShapes Go.WideShapes Go.ChangeAt Go.RowKit
structure BpR (w:World)(g o:Nat)(av:Bool)(an:Nat)(bv:Bool)(bn:Nat):Prop where
 a:w.cell? ⟨g,o,none⟩=some (.bool av)
 x:w.cell? ⟨g,o+1,none⟩=some (.int .u64 (an:Int))
 b:w.cell? ⟨g,o+2,none⟩=some (.bool bv)
 y:w.cell? ⟨g,o+3,none⟩=some (.int .u64 (bn:Int))
set_option maxRecDepth 100000 in
set_option maxHeartbeats 8000000 in
theorem walk (s:Sch)(A:Option Addr)(n c:Nat)(A1:Option Addr)(n1 c1:Nat)(A2:Option Addr)(n2 c2:Nat)(A3:Option Addr)(n3 c3:Nat)(k:Int)(rows:List Nat)(w:World)(h:SchAt w s A n c A1 n1 c1 A2 n2 c2)(hr:Rd La.nm w w.heap.size A3 n3 c3 rows)(hrf:La.Fit rows):
  Calls Tryz.prog 7 #[zV A3 n3 c3 k,schV s A n c A1 n1 c1 A2 n2 c2] w fun e w'=>e= .returned (.bool true)∧Below w.heap.size w w':=by
 have HSA:Hid (∀W,Below w.heap.size w W→SchAt W s A n c A1 n1 c1 A2 n2 c2):=Lib.hid fun W hW=>h.keep hW
 have HR:Hid (∀W,Below w.heap.size w W→Rd La.nm W W.heap.size A3 n3 c3 rows):=Lib.hid fun W hW=>hr.at_size (Nat.le_refl _) hW
 have HRF:=Lib.hid hrf
 have hlen1:=h.l.len
 have HGC:Hid (∀W:World,Calls Tryz.prog 17 #[schV s A n c A1 n1 c1 A2 n2 c2] W fun e w'=>TellsB e (fun r=>r=false→n≤60∧(n1+n2≤9223372036854775807→n1+n2≤80))∧Below W.heap.size W w'):=Lib.hid fun W=>great_any s A n c A1 n1 c1 A2 n2 c2 W (by have:=h.l.cap;have:=h.l.top;unfold maxLen at this;omega) (by have:=h.e.cap;have:=h.e.top;unfold maxLen at this;omega)
 have HPC:Hid (∀W,Below w.heap.size w W→Calls Tryz.prog 10 #[zV A3 n3 c3 k] W fun e w'=> ∃a b,e= .returned (.tuple #[.iface 74 (.pointer a),.iface 77 (.pointer b)])∧Both w' a b (laOf rows) (efOf k)∧Below W.heap.size W w'):=Lib.hid fun W hW=>of_sorts A3 n3 c3 k rows W (HR.out W hW) hrf
 have HOC:Hid (∀(a b:Option Addr) (W:World),Below w.heap.size w W→Both W a b (laOf rows) (efOf k)→Calls Tryz.prog 18 #[schV s A n c A1 n1 c1 A2 n2 c2,.iface 74 (.pointer a),.iface 77 (.pointer b)] W fun e w'=> ∃x p q,e= .returned (.tuple #[Q4.v p,Q4.v q,.int .i64 x])∧OfIs (laOf rows) (efOf k) s w' x p q∧Below W.heap.size W w'):=Lib.hid fun a b W hW hbo=>senOf_any s A n c A1 n1 c1 A2 n2 c2 a b _ _ W (HSA.out W hW) hbo (laOf_ok _) (efOf_ok _)
 clear hlen1
 obtain⟨x,hx⟩: ∃x,w.alloc (.cells #[.slice A3 n3 c3,.int .i64 k] 24)=x:=⟨_,rfl⟩
 obtain⟨y,hy⟩: ∃y,x.alloc (.cells #[.int .i64 s.lv,.int .i64 s.ev,.slice A n c,.slice A1 n1 c1,.slice A2 n2 c2] 49)=y:=⟨_,rfl⟩
 have b0:Below w.heap.size w x:=hx▸(Below.refl _ _).alloc (Nat.le_refl _) _
 have sx:x.heap.size=w.heap.size+1:=by rw[← hx,World.size_alloc]
 have b1:Below x.heap.size x y:=hy▸(Below.refl _ _).alloc (Nat.le_refl _) _
 have k0:y.heap[w.heap.size]?=some (.cells #[.slice A3 n3 c3,.int .i64 k] 24 (0,0)):=(b1.block _ (by rw[sx];omega)).trans (hx▸heap_alloc_new w _)
 have hbx:Box y (w.heap.size+1) s.lv s.ev A n c A1 n1 c1 A2 n2 c2:=by rw[← sx, ← hy];exact Box.new x s.lv s.ev A n c A1 n1 c1 A2 n2 c2
 have hb:Below w.heap.size w y:=b0.trans (b1.mono b0.size)
 have s0:=(cell_blk (i:=0) k0).trans rfl
 have s1:=(cell_blk (i:=1) k0).trans rfl
 have HB:=Lib.hid hb
 have HBX:=Lib.hid hbx
 have HS0:=Lib.hid s0
 have HS1:=Lib.hid s1
 have z0:=hbx.z0
 have z1:=hbx.z1
 have z2:=hbx.z2
 have z3:=hbx.z3
 have z4:=hbx.z4
 clear b0 b1 sx k0 hb hbx h hr hrf s1
 subst hx
 unfold schV at HGC HOC ⊢
 unfold zV at HPC ⊢
 go_enter Tryz.func7,Tryz.ntmps7
 go_wp2_with fail
 clear hy
 refine(HGC.out _).mono ?_
 rintro e w1 ⟨⟨gr,rfl,hgr⟩,hv⟩
 have HGR:=Lib.hid hgr
 have HV1:=Lib.hid hv
 replace s0:=cell_old s0 hv
 clear hv hgr z0 z1 z2 z3 z4 HGC
 cases gr with
 |true=>
  have HBZ:=Lib.hid (HB.out.trans (HV1.out.mono HB.out.size))
  go_wp2_with fail
  refine(lives_any _).mono ?_
  rintro e wz ⟨rfl,hv⟩
  have HZ:=Lib.hid (HBZ.out.trans (hv.mono HBZ.out.size))
  clear hv
  go_wp2_with fail
  go_ret
  exact⟨rfl,HZ.out⟩
 |false=>
 by_cases hbig:100 < n3
 ·have hbig':(100:Int) < (n3:Int):=by omega
  have HBZ:=Lib.hid (HB.out.trans (HV1.out.mono HB.out.size))
  clear hbig
  go_wp2_with fail
  refine(lives_any _).mono ?_
  rintro e wz ⟨rfl,hv⟩
  have HZ:=Lib.hid (HBZ.out.trans (hv.mono HBZ.out.size))
  clear hv
  go_wp2_with fail
  go_ret
  exact⟨rfl,HZ.out⟩
 have hbig': ¬(100:Int) < (n3:Int):=by omega
 have s1:=cell_old HS1.out HV1.out
 have hcp:=HPC.out w1 (HB.out.trans (HV1.out.mono HB.out.size))
 have HCP:=Lib.hid hcp
 clear hcp hbig HPC
 go_wp2_with fail
 refine HCP.out.mono ?_
 rintro e w2 ⟨a,b,rfl,hbo,hv⟩
 have HV2:=Lib.hid (HV1.out.trans (hv.mono HV1.out.size))
 have HBO2:=Lib.hid hbo
 have hbx:=HBX.out.keep HV2.out
 have z0:=hbx.z0
 have z1:=hbx.z1
 have z2:=hbx.z2
 have z3:=hbx.z3
 have z4:=hbx.z4
 have hco:=HOC.out a b w2 (HB.out.trans (HV2.out.mono HB.out.size)) hbo
 have HCO:=Lib.hid hco
 clear hv hbo hbx hco hbig' s0 s1 HCP HOC HV1
 go_wp2_with fail
 refine HCO.out.mono ?_
 rintro e w3 ⟨er,p,q,rfl,hof,hv⟩
 have HV3:=Lib.hid (HV2.out.trans (hv.mono HV2.out.size))
 have HBO3:=Lib.hid (HBO2.out.keep hv)
 clear hv z0 z1 z2 z3 z4 HCO HBO2 HV2
 obtain⟨B1,m1,d1,B2,m2,d2,B3,m3,d3,B4,m4,d4⟩:=p
 obtain⟨C1,k1,f1,C2,k2,f2,C3,k3,f3,C4,k4,f4⟩:=q
 simp only[Q4.v,senV]
 have h8:=B8.new w3 B1 m1 d1 B2 m2 d2 B3 m3 d3 B4 m4 d4 C1 k1 f1 C2 k2 f2 C3 k3 f3 C4 k4 f4
 have hal:=two_below w3 (.cells #[.slice B1 m1 d1,.slice B2 m2 d2,.slice B3 m3 d3,.slice B4 m4 d4] 28) (.cells #[.slice C1 k1 f1,.slice C2 k2 f2,.slice C3 k3 f3,.slice C4 k4 f4] 28)
 obtain⟨wa,hwa⟩: ∃wa,(w3.alloc (.cells #[.slice B1 m1 d1,.slice B2 m2 d2,.slice B3 m3 d3,.slice B4 m4 d4] 28)).alloc (.cells #[.slice C1 k1 f1,.slice C2 k2 f2,.slice C3 k3 f3,.slice C4 k4 f4] 28)=wa:=⟨_,rfl⟩
 rw[hwa] at h8 hal
 have HVA:=Lib.hid (HV3.out.trans (hal.mono HV3.out.size))
 have HBA:=Lib.hid (HB.out.trans (HVA.out.mono HB.out.size))
 have HBOA:=Lib.hid (HBO3.out.keep hal)
 have H8:=Lib.hid h8
 rcases hof with⟨hne0,-,-,-⟩|⟨rfl,ql,qe,lo,hi,lo',hi',hok,hp,hq⟩
 ·have hne:(er !=0)=true:=by simpa using hne0
  clear hne0 h8 hal
  go_wp2_with fail
  clear hwa
  refine(lives_any _).mono ?_
  rintro e wz ⟨rfl,hv⟩
  have HZ:=Lib.hid (HBA.out.trans (hv.mono HBA.out.size))
  clear hv
  go_wp2_with fail
  go_ret
  exact⟨rfl,HZ.out⟩
 replace hp:SenAt w3 (senS (laOf rows) lo hi (rcB ql s.l) (labB s.b)) B1 m1 d1 B2 m2 d2 B3 m3 d3 B4 m4 d4:=hp
 have HP:=Lib.hid (hp.keep hal).toI
 have hm1:m1≤300:=by rw[← HP.out.rp.len];exact Nat.le_trans (by simpa [toI,senS] using labB_len s.b) (by decide)
 have HSO:=Lib.hid (laOf_ok rows)
 generalize toI (senS (laOf rows) lo hi (rcB ql s.l) (labB s.b))=z at*
 generalize laOf rows=S at*
 have HOF:=Lib.hid (I.pairsOf_any (.iface 74 (.pointer a)) S z B1 m1 d1 B2 m2 d2 B3 m3 d3 B4 m4 d4 wa HBOA.out.sl.into HP.out (by omega))
 have HM:=Lib.hid hm1
 have t0:=h8.p0
 have t1:=h8.p1
 have t2:=h8.p2
 have t3:=h8.p3
 clear hp hq hal hok h8 hm1
 unfold senV at HOF
 go_wp2_with fail
 clear hwa
 refine HOF.out.mono ?_
 rintro e w4 ⟨A9,N9,c9,rfl,ho,hv⟩
 have HT:=Lib.hid (Rs.of_own tmc_len (by decide) ho)
 have HB4:=Lib.hid (HBA.out.trans (hv.mono HBA.out.size))
 have HBO4:=Lib.hid (HBOA.out.keep hv)
 have HPB:=Lib.hid (I.pairsBounds_any (.iface 74 (.pointer a)) S HSO.out z B1 m1 d1 B2 m2 d2 B3 m3 d3 B4 m4 d4 A9 N9 c9 _ (I.trmN S z:Int) w4 HBO4.out.sl.into (HP.out.keep hv) HM.out HT.out)
 have hbd:I.bdsAns S z (I.trmL S z) (I.trmN S z:Int)=I.bds S z:=by unfold I.bdsAns;rw[if_pos ⟨rfl,rfl⟩]
 rw[hbd] at HPB
 obtain⟨l,hl⟩: ∃l,l=I.bds S z:=⟨_,rfl⟩
 rw[← hl] at HPB
 have HPL:=Lib.hid fun (i:Nat) (hi:i < l.length)=>I.plain_at hl hi
 have h84:=H8.out.keep hv
 have t0:=h84.p0
 have t1:=h84.p1
 have t2:=h84.p2
 have t3:=h84.p3
 clear ho hv HOF h84 HBOA HP H8 HBA hbd hl HT HSO HM
 unfold senV at HPB
 go_wp2_with fail
 refine HPB.out.mono ?_
 rintro e w5 ⟨A5,N5,c5,rfl,ho,hv⟩
 have hrs:=Rs.of_own Bo.bdc_len (by decide) ho
 have HT:=Lib.hid hrs
 have HL:=Lib.hid hrs.len
 have HTOP:=Lib.hid (show N5≤maxLen from Nat.le_trans hrs.cap hrs.top)
 have HB5:=Lib.hid (HB4.out.trans (hv.mono HB4.out.size))
 have HBO5:=Lib.hid (HBO4.out.keep hv)
 have HBT:Hid (∀W,Below w5.heap.size w5 W→Calls Tryz.prog 191 #[.pointer a] W fun e w'=>e= .returned (.int .u64 (S.bot:Int))∧Below W.heap.size W w'):=Lib.hid fun W hW=>HBO5.out.l.bot W hW
 have HTP:Hid (∀W,Below w5.heap.size w5 W→Calls Tryz.prog 195 #[.pointer a] W fun e w'=>e= .returned (.int .u64 (S.top:Int))∧Below W.heap.size W w'):=Lib.hid fun W hW=>HBO5.out.l.top W hW
 have HPP:Hid (∀(i:Nat) (hi:i < l.length),((l[i].av=false∧l[i].bv=true∧l[i].an≠S.bot)∨(l[i].av=true∧l[i].bv=false∧l[i].bn≠S.top)∨(l[i].av=true∧l[i].bv=true∧l[i].an≠l[i].bn))∧ ∀j (q:j < i) (q1:j < l.length),l[j]≠l[i]):=Lib.hid fun i hi=>HPL.out i hi
 clear hrs ho hv HPB HB4 HBO4 HBO5 HPL t0 t1 t2 t3
 generalize S.bot=bot at*
 generalize S.top=top at*
 go_wp2_with fail
 go_loopw [13] (fun v13 wr=> ∃i:Nat,v13= .int .i64 (i:Int)∧i≤N5∧Below w5.heap.size w5 wr) (fun v13 _=>N5 - (intOf v13).toNat)
 case atStart=>exact⟨0,rfl,Nat.zero_le _,Below.refl _ _⟩
 case round=>
  obtain⟨i,rfl,hi,hb⟩:=hrel
  have hn5:=HTOP.out
  unfold maxLen at hn5
  by_cases hlt:i < N5
  ·have hil:i < l.length:=by have:=HL.out;omega
   obtain⟨b1,o1,rfl,hb1,u0,u1,u2,u3⟩:=Bo.bd_at (HT.out.at_size (Nat.le_refl _) hb) hil
   have HB:=Lib.hid hb
   have HLT:=Lib.hid hlt
   have hin:(i:Int) < (N5:Int):=by omega
   have hloo:=(HPP.out i hil).1
   have HDF:Hid (∀j (q:j < i) (q1:j < l.length),l[j]≠l[i]):=Lib.hid (HPP.out i hil).2
   generalize l[i]=t at*
   obtain⟨av,an,bv,bn⟩:=t
   simp only at u0 u1 u2 u3 hloo
   have HU:Hid (∀W,Below wr.heap.size wr W→BpR W b1 (o1+i*4) av an bv bn):=Lib.hid fun W hW=>⟨cell_old u0 hW,cell_old u1 hW,cell_old u2 hW,cell_old u3 hW⟩
   clear hlt hi hil hb hb1
   rcases hloo with⟨rfl,rfl,hne⟩|⟨rfl,rfl,hne⟩|⟨rfl,rfl,hne⟩
   focus
    have g2:((an:Int)==(bot:Int))=false:=by simp;omega
    clear hne
    go_wp2_with fail
    have hu:=HU.out wr.drew (Below.refl wr.heap.size wr).drew
    refine wp_region_ord [0,1,2,3,4,5,6,7,8,9,10,11,12,13,14,15,16,17,18,19,20,21,22,23,24,25,26,27,28,29,30,31,32,33,34,35,36,37,38,39,40,41,42,43,44,45,46,47,48,49,50,51,52,53,54,55,56,57,58,59] [23,43] 60 (fun W=>BpR W b1 (o1+i*4) false an true bn) (by kernel_rfl) (by kernel_rfl) (by kernel_rfl) (by kernel_rfl) (fun _ _ _ _ _ h=>h) hu ?_
    simp only[steps,List.getElem?_cons_zero,List.getElem?_cons_succ]
    clear hu u0 u1 u2 u3
    repeat(first
     |(refine ord_no rfl ?_;simp only[Act.put,List.setIfInBounds_toArray,List.set_cons_zero,List.set_cons_succ])
     |(refine ord_yes (v:= ?_) rfl rfl ?_ ?_;rotate_left;(focus(rintro w' ⟨x0,x1,x2,x3⟩;go_simp;try with_reducible rfl));simp only[Act.put,List.setIfInBounds_toArray,List.set_cons_zero,List.set_cons_succ]))
    have HBD:=Lib.hid ((Below.refl wr.heap.size wr).drew)
    generalize World.drew _=wd at*
    refine ord_hard rfl rfl (fun K hK=> ?_)
    go_simp
    refine(HBT.out wd (HB.out.trans (HBD.out.mono HB.out.size))).mono ?_
    rintro e w6 ⟨rfl,hv⟩
    have HV6:=Lib.hid (HBD.out.trans (hv.mono HBD.out.size))
    have hu:=HU.out w6 HV6.out
    refine hK.out _ _ (fun _=>hu) ?_
    clear hK K hu hv HBD
    try simp only[Act.put,List.setIfInBounds_toArray,List.set_cons_zero,List.set_cons_succ]
    repeat(first
     |(refine ord_no rfl ?_;simp only[Act.put,List.setIfInBounds_toArray,List.set_cons_zero,List.set_cons_succ])
     |(refine ord_yes (v:= ?_) rfl rfl ?_ ?_;rotate_left;(focus(rintro w' ⟨x0,x1,x2,x3⟩;go_simp;try with_reducible rfl));simp only[Act.put,List.setIfInBounds_toArray,List.set_cons_zero,List.set_cons_succ]))
    refine ord_end ?_
    obtain⟨wq,rfl⟩: ∃x,x=w6:=⟨_,rfl⟩
    have HQ:=Lib.hid HV6.out
    clear HV6 g2
    go_wp2_with fail
   rotate_left
   focus
    have g2:((bn:Int)==(top:Int))=false:=by simp;omega
    clear hne
    go_wp2_with fail
    have hu:=HU.out wr.drew (Below.refl wr.heap.size wr).drew
    refine wp_region_ord [0,1,2,3,4,5,6,7,8,9,10,11,12,13,14,15,16,17,18,19,20,21,22,23,24,25,26,27,28,29,30,31,32,33,34,35,36,37,38,39,40,41,42,43,44,45,46,47,48,49,50,51,52,53,54,55,56,57,58,59] [23,43] 60 (fun W=>BpR W b1 (o1+i*4) true an false bn) (by kernel_rfl) (by kernel_rfl) (by kernel_rfl) (by kernel_rfl) (fun _ _ _ _ _ h=>h) hu ?_
    simp only[steps,List.getElem?_cons_zero,List.getElem?_cons_succ]
    clear hu u0 u1 u2 u3
    repeat(first
     |(refine ord_no rfl ?_;simp only[Act.put,List.setIfInBounds_toArray,List.set_cons_zero,List.set_cons_succ])
     |(refine ord_yes (v:= ?_) rfl rfl ?_ ?_;rotate_left;(focus(rintro w' ⟨x0,x1,x2,x3⟩;go_simp;try with_reducible rfl));simp only[Act.put,List.setIfInBounds_toArray,List.set_cons_zero,List.set_cons_succ]))
    have HBD:=Lib.hid ((Below.refl wr.heap.size wr).drew)
    generalize World.drew _=wd at*
    refine ord_hard rfl rfl (fun K hK=> ?_)
    go_simp
    refine(HTP.out wd (HB.out.trans (HBD.out.mono HB.out.size))).mono ?_
    rintro e w6 ⟨rfl,hv⟩
    have HV6:=Lib.hid (HBD.out.trans (hv.mono HBD.out.size))
    have hu:=HU.out w6 HV6.out
    refine hK.out _ _ (fun _=>hu) ?_
    clear hK K hu hv HBD
    try simp only[Act.put,List.setIfInBounds_toArray,List.set_cons_zero,List.set_cons_succ]
    repeat(first
     |(refine ord_no rfl ?_;simp only[Act.put,List.setIfInBounds_toArray,List.set_cons_zero,List.set_cons_succ])
     |(refine ord_yes (v:= ?_) rfl rfl ?_ ?_;rotate_left;(focus(rintro w' ⟨x0,x1,x2,x3⟩;go_simp;try with_reducible rfl));simp only[Act.put,List.setIfInBounds_toArray,List.set_cons_zero,List.set_cons_succ]))
    refine ord_end ?_
    obtain⟨wq,rfl⟩: ∃x,x=w6:=⟨_,rfl⟩
    have HQ:=Lib.hid HV6.out
    clear HV6 g2
    go_wp2_with fail
   rotate_left
   focus
    have g2:((an:Int)==(bn:Int))=false:=by simp;omega
    clear hne
    go_wp2_with fail
    have hu:=HU.out wr.drew (Below.refl wr.heap.size wr).drew
    refine wp_region_ord [0,1,2,3,4,5,6,7,8,9,10,11,12,13,14,15,16,17,18,19,20,21,22,23,24,25,26,27,28,29,30,31,32,33,34,35,36,37,38,39,40,41,42,43,44,45,46,47,48,49,50,51,52,53,54,55,56,57,58,59] [23,43] 60 (fun W=>BpR W b1 (o1+i*4) true an true bn) (by kernel_rfl) (by kernel_rfl) (by kernel_rfl) (by kernel_rfl) (fun _ _ _ _ _ h=>h) hu ?_
    simp only[steps,List.getElem?_cons_zero,List.getElem?_cons_succ]
    clear hu u0 u1 u2 u3
    repeat(first
     |(refine ord_no rfl ?_;simp only[Act.put,List.setIfInBounds_toArray,List.set_cons_zero,List.set_cons_succ])
     |(refine ord_yes (v:= ?_) rfl rfl ?_ ?_;rotate_left;(focus(rintro w' ⟨x0,x1,x2,x3⟩;go_simp;try with_reducible rfl));simp only[Act.put,List.setIfInBounds_toArray,List.set_cons_zero,List.set_cons_succ]))
    have HBD:=Lib.hid ((Below.refl wr.heap.size wr).drew)
    generalize World.drew _=wd at*
    refine ord_end ?_
    obtain⟨wq,rfl⟩: ∃x,x=wd:=⟨_,rfl⟩
    have HQ:=Lib.hid HBD.out
    clear HBD g2
    go_wp2_with fail
   all_goals(
    obtain⟨wo,rfl⟩: ∃wo,wo=wr:=⟨_,rfl⟩
    go_loopw [14] (fun v14 wz=> ∃j:Nat,v14= .int .i64 (j:Int)∧j≤i∧Below wo.heap.size wo wz) (fun v14 _=>i - (intOf v14).toNat)
    case atStart=>exact⟨0,rfl,Nat.zero_le _,HQ.out⟩
    case round=>
     obtain⟨j,rfl,hj,hbj⟩:=hrel
     have hi5:=HLT.out
     by_cases hltj:j < i
     ·have hjl:j < l.length:=by have:=HL.out;omega
      obtain⟨b2,o2,e,-,v0,v1,v2,v3⟩:=Bo.bd_at (HT.out.at_size (Nat.le_refl _) (HB.out.trans (hbj.mono HB.out.size))) hjl
      injection e with e
      injection e with ea eb
      subst ea eb
      have hu:=HU.out wr.drew hbj.drew
      have HBJ:=Lib.hid hbj
      have HLJ:=Lib.hid hltj
      have hinj:(j:Int) < (i:Int):=by omega
      have hinj5:(j:Int) < (N5:Int):=by omega
      have hdf:=I.bd_cases (HDF.out j hltj hjl)
      generalize l[j]=s at*
      obtain⟨a',x',b',y'⟩:=s
      simp only at v0 v1 v2 v3 hdf
      clear hj hjl hltj hbj
      have gx0:((an:Int)==(an:Int))=true:=by simp
      rcases hdf with hd|⟨rfl,hd⟩|⟨rfl,rfl,hd⟩|⟨rfl,rfl,rfl,hd⟩
      ·cases a' <;> first|(exact absurd rfl hd)|skip
       clear hd
       go_wp2_with fail
       refine wp_region_ord [0,1,2,3,4,5,6,7,8] [] 9 (fun W=>BpR W b1 (o1+j*4) _ _ _ _∧BpR W b1 (o1+i*4) _ _ _ _) (by kernel_rfl) (by kernel_rfl) (by kernel_rfl) (by kernel_rfl) (fun _ _ _ _ _ h=>h) ⟨⟨v0,v1,v2,v3⟩,hu⟩ ?_
       simp only[steps,List.getElem?_cons_zero,List.getElem?_cons_succ]
       repeat(first
        |(refine ord_no rfl ?_;simp only[Act.put,List.setIfInBounds_toArray,List.set_cons_zero,List.set_cons_succ])
        |(refine ord_yes (v:= ?_) rfl rfl ?_ ?_;rotate_left;(focus(rintro w' ⟨⟨x0,x1,x2,x3⟩,x4,x5,x6,x7⟩;go_simp;try with_reducible rfl));simp only[Act.put,List.setIfInBounds_toArray,List.set_cons_zero,List.set_cons_succ]))
       have HBD:=Lib.hid (HBJ.out.trans ((Below.refl wr.heap.size wr).drew.mono HBJ.out.size))
       clear v0 v1 v2 v3 hu HBJ
       generalize World.drew _=wd at*
       refine ord_end ?_
       go_wp2_with fail
       go_roundw
       case rel=>exact⟨j+1,by go_num,HLJ.out,HBD.out⟩
       case measure=>
        have:=HLJ.out
        simp[intOf]
        omega
      ·have gx:((x':Int)==(an:Int))=false:=by simp;omega
       clear hd
       go_wp2_with fail
       refine wp_region_ord [0,1,2,3,4,5,6,7,8] [] 9 (fun W=>BpR W b1 (o1+j*4) _ _ _ _∧BpR W b1 (o1+i*4) _ _ _ _) (by kernel_rfl) (by kernel_rfl) (by kernel_rfl) (by kernel_rfl) (fun _ _ _ _ _ h=>h) ⟨⟨v0,v1,v2,v3⟩,hu⟩ ?_
       simp only[steps,List.getElem?_cons_zero,List.getElem?_cons_succ]
       repeat(first
        |(refine ord_no rfl ?_;simp only[Act.put,List.setIfInBounds_toArray,List.set_cons_zero,List.set_cons_succ])
        |(refine ord_yes (v:= ?_) rfl rfl ?_ ?_;rotate_left;(focus(rintro w' ⟨⟨x0,x1,x2,x3⟩,x4,x5,x6,x7⟩;go_simp;try with_reducible rfl));simp only[Act.put,List.setIfInBounds_toArray,List.set_cons_zero,List.set_cons_succ]))
       have HBD:=Lib.hid (HBJ.out.trans ((Below.refl wr.heap.size wr).drew.mono HBJ.out.size))
       clear v0 v1 v2 v3 hu HBJ
       generalize World.drew _=wd at*
       refine ord_end ?_
       go_wp2_with fail
       go_roundw
       case rel=>exact⟨j+1,by go_num,HLJ.out,HBD.out⟩
       case measure=>
        have:=HLJ.out
        simp[intOf]
        omega
      ·cases b' <;> first|(exact absurd rfl hd)|skip
       clear hd
       go_wp2_with fail
       refine wp_region_ord [0,1,2,3,4,5,6,7,8] [] 9 (fun W=>BpR W b1 (o1+j*4) _ _ _ _∧BpR W b1 (o1+i*4) _ _ _ _) (by kernel_rfl) (by kernel_rfl) (by kernel_rfl) (by kernel_rfl) (fun _ _ _ _ _ h=>h) ⟨⟨v0,v1,v2,v3⟩,hu⟩ ?_
       simp only[steps,List.getElem?_cons_zero,List.getElem?_cons_succ]
       repeat(first
        |(refine ord_no rfl ?_;simp only[Act.put,List.setIfInBounds_toArray,List.set_cons_zero,List.set_cons_succ])
        |(refine ord_yes (v:= ?_) rfl rfl ?_ ?_;rotate_left;(focus(rintro w' ⟨⟨x0,x1,x2,x3⟩,x4,x5,x6,x7⟩;go_simp;try with_reducible rfl));simp only[Act.put,List.setIfInBounds_toArray,List.set_cons_zero,List.set_cons_succ]))
       have HBD:=Lib.hid (HBJ.out.trans ((Below.refl wr.heap.size wr).drew.mono HBJ.out.size))
       clear v0 v1 v2 v3 hu HBJ
       generalize World.drew _=wd at*
       refine ord_end ?_
       go_wp2_with fail
       go_roundw
       case rel=>exact⟨j+1,by go_num,HLJ.out,HBD.out⟩
       case measure=>
        have:=HLJ.out
        simp[intOf]
        omega
      ·have gy:((y':Int)==(bn:Int))=false:=by simp;omega
       clear hd
       go_wp2_with fail
       refine wp_region_ord [0,1,2,3,4,5,6,7,8] [] 9 (fun W=>BpR W b1 (o1+j*4) _ _ _ _∧BpR W b1 (o1+i*4) _ _ _ _) (by kernel_rfl) (by kernel_rfl) (by kernel_rfl) (by kernel_rfl) (fun _ _ _ _ _ h=>h) ⟨⟨v0,v1,v2,v3⟩,hu⟩ ?_
       simp only[steps,List.getElem?_cons_zero,List.getElem?_cons_succ]
       repeat(first
        |(refine ord_no rfl ?_;simp only[Act.put,List.setIfInBounds_toArray,List.set_cons_zero,List.set_cons_succ])
        |(refine ord_yes (v:= ?_) rfl rfl ?_ ?_;rotate_left;(focus(rintro w' ⟨⟨x0,x1,x2,x3⟩,x4,x5,x6,x7⟩;go_simp;try with_reducible rfl));simp only[Act.put,List.setIfInBounds_toArray,List.set_cons_zero,List.set_cons_succ]))
       have HBD:=Lib.hid (HBJ.out.trans ((Below.refl wr.heap.size wr).drew.mono HBJ.out.size))
       clear v0 v1 v2 v3 hu HBJ
       generalize World.drew _=wd at*
       refine ord_end ?_
       go_wp2_with fail
       go_roundw
       case rel=>exact⟨j+1,by go_num,HLJ.out,HBD.out⟩
       case measure=>
        have:=HLJ.out
        simp[intOf]
        omega
     ·obtain rfl:i=j:=by omega
      have HBB:=Lib.hid (HB.out.trans (hbj.mono HB.out.size))
      clear hbj hltj hj
      go_wp2_with fail
      go_roundw
      case rel=>exact⟨i+1,by go_num,HLT.out,HBB.out⟩
      case measure=>
       have:=HLT.out
       simp[intOf]
       omega)
  ·obtain rfl:i=N5:=by omega
   have HBW:=Lib.hid (HB5.out.trans (hb.mono HB5.out.size))
   clear hlt hi hb
   go_wp2_with fail
   refine(lives_any _).mono ?_
   rintro e wz ⟨rfl,hv⟩
   have HZ:=Lib.hid (HBW.out.trans (hv.mono HBW.out.size))
   clear hv
   go_wp2_with fail
   go_ret
   exact⟨rfl,HZ.out⟩
theorem own:ownKnob Tryz.prog.godebug=none:=by kernel_rfl
theorem laidOut:laidOutB Tryz.prog=true:=by kernel_rfl
set_option maxRecDepth 100000 in
theorem lifted (os:Os)(started:os.Started)(H:Type)(enc:TypeId×Value→H):
  ReturnsInHanded {} Tryz.checked os 7 .any (Rows.pairsPlainSpec.pre6 enc Tryz.prog Tryz.f7 Rows.pairsPlainRow.domain false) (Rows.pairsPlainSpec.post enc Tryz.prog Tryz.f7 false true false false):=by
 refine returnsInHanded_of_change (C:=Tryz.checked) own started (by kernel_rfl) Tryz.func7
  (ChangeSpec.witness6 (enc:=enc) (C:=Tryz.checked) false ⟨#[],#[.agg #[.slice none 0 0,.int .i64 0],.agg #[.int .i64 0,.int .i64 0,.slice none 0 0,.slice none 0 0,.slice none 0 0]],[]⟩ 8 (by kernel_rfl) (by kernel_rfl) (by kernel_rfl) (by kernel_rfl)) ?_
 intro W base args ds gs before hval0 hW hcnd _
 have hval: ∀(j:Nat) t v,Tryz.f7.params[j]?=some t→args[j]?=some v→Value.okWide Tryz.prog W .any base t v:=hval0
 have hW':=hW
 obtain⟨p,q,hA0,hV,rfl,hfz,hnd⟩:=hW
 have hA:DataW.TrodAll enc Tryz.prog W 0 (fun _=>true) true Tryz.f7.params.toList args.toList ds p:=hA0
 rw[Tryz.params7] at hA hval
 obtain⟨v0,vs0,d0,ds0,p0,q0,hargs,rfl,rfl,h0,r0⟩:=trodAll_cons hA
 obtain⟨v1,vs1,d1,ds1,p1,q1,rfl,rfl,rfl,h1,r1⟩:=trodAll_cons r0
 obtain⟨rfl,rfl,rfl⟩:=trodAll_nil r1
 obtain rfl:args= #[v0,v1]:=by cases args;simp_all
 obtain⟨rfl,rfl⟩:=trodVars_none hV
 have lt0: ∀x∈p0,x.block < W.heap.size:=by obtain⟨m,hm⟩:=h0;exact DataW.trod_lt m _ _ _ hm
 have lt1: ∀x∈p1,x.block < W.heap.size:=by obtain⟨m,hm⟩:=h1;exact DataW.trod_lt m _ _ _ hm
 obtain⟨A3,n3,c3,k,rows,rfl,hr,hrf⟩:=opened_sorts h0
 obtain⟨s,A,n,c,A1,n1,c1,A2,n2,c2,rfl,hS,-,-⟩:=opened_scheme h1
 clear hA0 hval0
 refine(walk s A n c A1 n1 c1 A2 n2 c2 A3 n3 c3 k rows W hS hr hrf).mono fun e W' ⟨he,bel⟩=> ?_
 subst he
 exact⟨_,rfl,_,_,_,[],_,[],hW',trodAll_mk1 (shut_bool Tryz.underlying4 _),(trodAll_cons_mk (Below.trod laidOut (by kernel_rfl) (of_decide_eq_true (by kernel_rfl)) h0 bel lt0) (trodAll_cons_mk (Below.trod laidOut (by kernel_rfl) (of_decide_eq_true (by kernel_rfl)) h1 bel lt1) trodAll_mk0)),rfl,bel.frame _,fun h=>by cases h⟩
theorem over:Rows.pairsPlainRow.holds Tryz.pinned (OpenSpec.ofChange Rows.pairsPlainSpec):=
 OpenClaim.holds_of_wide 7 Tryz.f7 rfl rfl rfl rfl rfl rfl rfl ⟨rfl,rfl,rfl,rfl,rfl⟩ rfl rfl rfl rfl rfl (by kernel_rfl) Tryz.func7 (by kernel_rfl)
  (of_decide_eq_true (by kernel_rfl)) (by unfold Func.isWrapper;first|(rw[if_pos (by decide+kernel)];kernel_rfl)|(rw[if_neg (by decide+kernel)];exact⟨rfl,rfl⟩))
  (fun os started H enc _=>lifted os started H enc)
theorem proved:Rows.PairsPlainSaid:=over
end Go.Proofs.YtmejhedegmjboaaGreat.pairsPlain
