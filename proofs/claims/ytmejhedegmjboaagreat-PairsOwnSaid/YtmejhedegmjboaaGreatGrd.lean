/- Numbers of 64 bits: of spots, and of what is ground. No condition. -/
/- What cmp.Or, schemes.Check and schemes.Ground tell. Condition: what comes in can be read. -/
/- What schemes.Ground tells. Condition: what comes in can be read. -/
import Derived.Test.YtmejhedegmjboaaGreatEach
import Derived.Test.YtmejhedegmjboaaGreatLaw2
import Derived.Test.YtmejhedegmjboaaGreatRange
import Derived.Test.YtmejhedegmjboaaGreatSen
import Derived.Test.YtmejhedegmjboaaGreatTerms
namespace Go.Proofs.YtmejhedegmjboaaGreat
open Go.RowKit
theorem lab_u64: ∀(l:List Nd) (k:Nat) (ss:List Nat),(∀x∈l,x.TFits)→ ∀p∈lab k l ss,U64 p.z
 | [],_,_,_,p,h=>by simp[lab] at h
 |_::_,_,[],_,p,h=>by simp[lab] at h
 |x::l,k,s::ss,hs,p,h=>by
  have h0:=hs x List.mem_cons_self
  simp only[lab,List.mem_append] at h
  rcases h with h|h
  ·unfold labS at h
   split at h
   ·simp only[List.mem_cons,List.not_mem_nil,or_false] at h
    rcases h with rfl|rfl
    ·exact h0.l
    ·exact h0.p
   ·simp only[List.mem_cons,List.not_mem_nil,or_false] at h
    subst h
    exact h0.l
  ·exact lab_u64 l (k+1) ss (fun y hy=>hs y (List.mem_cons_of_mem _ hy)) p h
theorem eff_u64: ∀(l:List Nd) (k:Nat) (ss:List Nat),(∀x∈l,x.TFits)→ ∀p∈eff k l ss,U64 p.z
 | [],_,_,_,p,h=>by simp[eff] at h
 |_::_,_,[],_,p,h=>by simp[eff] at h
 |x::l,k,s::ss,hs,p,h=>by
  have h0:=hs x List.mem_cons_self
  simp only[eff,List.mem_append] at h
  rcases h with h|h
  ·unfold effS at h
   split at h
   ·simp only[List.mem_cons,List.not_mem_nil,or_false] at h
    subst h
    exact h0.e
   ·simp at h
  ·exact eff_u64 l (k+1) ss (fun y hy=>hs y (List.mem_cons_of_mem _ hy)) p h
theorem labB_u64 {l:List Nd}(h: ∀x∈l,x.TFits): ∀p∈labB l,U64 p.z:=by
 unfold labB
 split
 ·exact lab_u64 l 0 _ h
 ·simp
theorem effB_u64 {l:List Nd}(h: ∀x∈l,x.TFits): ∀p∈effB l,U64 p.z:=by
 unfold effB
 split
 ·exact eff_u64 l 0 _ h
 ·simp
theorem tfits_put {x:Nd}(h:x.TFits){t:Tm}(ht:U64 t.2)(p:Nat):(x.put p t).TFits:=by
 unfold Nd.put
 split
 ·exact⟨ht,h.p,h.e⟩
 ·split
  ·exact⟨h.l,ht,h.e⟩
  ·exact⟨h.l,h.p,ht⟩
theorem tfits_putL: ∀(l:List Nd) (ts:List Tm),(∀x∈l,x.TFits)→(∀t∈ts,U64 t.2)→ ∀x∈putL l ts,x.TFits
 | [],_,_,_=>by simp[putL]
 |x::l,[],h,_=>by simpa [putL] using h
 |x::l,t::ts,h,k=>by
  have hx:=h x List.mem_cons_self
  have hl:=fun y hy=>h y (List.mem_cons_of_mem x hy)
  have kt:=k t List.mem_cons_self
  have ks:=fun y hy=>k y (List.mem_cons_of_mem t hy)
  unfold putL
  split
  ·cases ts with
   |nil=>
    intro y hy
    rcases List.mem_cons.1 hy with rfl|hy
    ·exact tfits_put hx kt 0
    ·exact hl y hy
   |cons u us=>
    intro y hy
    rcases List.mem_cons.1 hy with rfl|hy
    ·exact tfits_put (tfits_put hx kt 0) (ks u List.mem_cons_self) 1
    ·exact tfits_putL l us hl (fun z hz=>ks z (List.mem_cons_of_mem _ hz)) y hy
  ·intro y hy
   rcases List.mem_cons.1 hy with rfl|hy
   ·exact tfits_put hx kt 0
   ·exact tfits_putL l ts hl ks y hy
theorem tfits_putE: ∀(l:List Nd) (ts:List Tm),(∀x∈l,x.TFits)→(∀t∈ts,U64 t.2)→ ∀x∈putE l ts,x.TFits
 | [],_,_,_=>by simp[putE]
 |x::l,ts,h,k=>by
  have hx:=h x List.mem_cons_self
  have hl:=fun y hy=>h y (List.mem_cons_of_mem x hy)
  unfold putE
  split
  ·cases ts with
   |nil=>exact h
   |cons u us=>
    intro y hy
    rcases List.mem_cons.1 hy with rfl|hy
    ·exact tfits_put hx (k u List.mem_cons_self) 2
    ·exact tfits_putE l us hl (fun z hz=>k z (List.mem_cons_of_mem _ hz)) y hy
  ·intro y hy
   rcases List.mem_cons.1 hy with rfl|hy
   ·exact hx
   ·exact tfits_putE l ts hl k y hy
theorem bnd_fit {p:Sp}(h:U64 p.z):(bnd p).Fit:=by
 have:=h.hi
 have:=h.lo
 exact⟨by show p.z.toNat < _;omega,by show p.z.toNat < _;omega⟩
theorem bnds_fit {l:List Sp}(h: ∀p∈l,U64 p.z): ∀b∈l.map bnd,b.Fit:=fun b hb=>by
 obtain⟨p,hp,rfl⟩:=List.mem_map.1 hb
 exact bnd_fit (h p hp)
def schV (s:Sch)(A:Option Addr)(n c:Nat)(A1:Option Addr)(n1 c1:Nat)(A2:Option Addr)(n2 c2:Nat):Value:= .agg #[.int .i64 s.lv,.int .i64 s.ev,.slice A n c,.slice A1 n1 c1,.slice A2 n2 c2]
structure SchAt (w:World)(s:Sch)(A:Option Addr)(n c:Nat)(A1:Option Addr)(n1 c1:Nat)(A2:Option Addr)(n2 c2:Nat):Prop where
 b:Ns w w.heap.size A n c s.b
 bf: ∀x∈s.b,x.Fits
 bt: ∀x∈s.b,x.TFits
 l:Rs Bo.bdc 4 w w.heap.size A1 n1 c1 s.l
 lf: ∀b∈s.l,b.Fit
 e:Rs Bo.bdc 4 w w.heap.size A2 n2 c2 s.e
 ef: ∀b∈s.e,b.Fit
theorem SchAt.keep {w W:World}{s:Sch}{A:Option Addr}{n c:Nat}{A1:Option Addr}{n1 c1:Nat}{A2:Option Addr}{n2 c2:Nat}(h:SchAt w s A n c A1 n1 c1 A2 n2 c2)(hb:Below w.heap.size w W):SchAt W s A n c A1 n1 c1 A2 n2 c2:=
 ⟨h.b.at_size (Nat.le_refl _) hb,h.bf,h.bt,h.l.at_size (Nat.le_refl _) hb,h.lf,h.e.at_size (Nat.le_refl _) hb,h.ef⟩
structure Box (w:World)(g:Nat)(k1 k2:Int)(A:Option Addr)(n c:Nat)(A1:Option Addr)(n1 c1:Nat)(A2:Option Addr)(n2 c2:Nat):Prop where
 z0:w.cell? ⟨g,0,none⟩=some (.int .i64 k1)
 z1:w.cell? ⟨g,1,none⟩=some (.int .i64 k2)
 z2:w.cell? ⟨g,2,none⟩=some (.slice A n c)
 z3:w.cell? ⟨g,3,none⟩=some (.slice A1 n1 c1)
 z4:w.cell? ⟨g,4,none⟩=some (.slice A2 n2 c2)
theorem cell_old {w w':World}{p:Addr}{v:Value}(h:w.cell? p=some v)(hb:Below w.heap.size w w'):w'.cell? p=some v:=(hb.cell (World.block_lt_of_cell? w p h)).trans h
theorem Box.keep {w W:World}{g:Nat}{k1 k2:Int}{A:Option Addr}{n c:Nat}{A1:Option Addr}{n1 c1:Nat}{A2:Option Addr}{n2 c2:Nat}(h:Box w g k1 k2 A n c A1 n1 c1 A2 n2 c2)(hb:Below w.heap.size w W):Box W g k1 k2 A n c A1 n1 c1 A2 n2 c2:=
 ⟨cell_old h.z0 hb,cell_old h.z1 hb,cell_old h.z2 hb,cell_old h.z3 hb,cell_old h.z4 hb⟩
theorem Box.new (w:World)(k1 k2:Int)(A:Option Addr)(n c:Nat)(A1:Option Addr)(n1 c1:Nat)(A2:Option Addr)(n2 c2:Nat):Box (w.alloc (.cells #[.int .i64 k1,.int .i64 k2,.slice A n c,.slice A1 n1 c1,.slice A2 n2 c2] 49)) w.heap.size k1 k2 A n c A1 n1 c1 A2 n2 c2:=
 have hbx:=heap_alloc_new w (.cells #[.int .i64 k1,.int .i64 k2,.slice A n c,.slice A1 n1 c1,.slice A2 n2 c2] 49)
 ⟨(cell_blk (i:=0) hbx).trans rfl,(cell_blk (i:=1) hbx).trans rfl,(cell_blk (i:=2) hbx).trans rfl,(cell_blk (i:=3) hbx).trans rfl,(cell_blk (i:=4) hbx).trans rfl⟩
set_option maxRecDepth 100000 in
set_option maxHeartbeats 2000000 in
theorem or_any (g:Nat)(a b c d:Int)(w:World)(h0:w.cell? ⟨g,0,none⟩=some (.int .i64 a))(h1:w.cell? ⟨g,1,none⟩=some (.int .i64 b))(h2:w.cell? ⟨g,2,none⟩=some (.int .i64 c))(h3:w.cell? ⟨g,3,none⟩=some (.int .i64 d)):
  Calls Tryz.prog 44 #[.slice (some ⟨g,0,none⟩) 4 4] w fun e w'=>e= .returned (.int .i64 (orE a (orE b (orE c d))))∧w=w':=by
 have hall: ∀i:Nat,i < 4→w.cell? ⟨g,i,none⟩=some (.int .i64 ([a,b,c,d].getD i 0)):=fun i hi=>by
  have:i=0∨i=1∨i=2∨i=3:=by omega
  rcases this with rfl|rfl|rfl|rfl
  ·exact h0
  ·exact h1
  ·exact h2
  ·exact h3
 have HA:=Lib.hid hall
 have HF:Hid (∀i:Nat,i < 4→(∀j,j < i→ [a,b,c,d].getD j 0=0)→ [a,b,c,d].getD i 0≠0→orE a (orE b (orE c d))= [a,b,c,d].getD i 0):=Lib.hid fun i hi hz hn=>by
  have:i=0∨i=1∨i=2∨i=3:=by omega
  rcases this with rfl|rfl|rfl|rfl
  ·exact if_neg hn
  ·have z0:=hz 0 (by decide)
   replace z0:a=0:=z0
   subst z0
   exact(if_pos rfl).trans (if_neg hn)
  ·have z0:=hz 0 (by decide)
   have z1:=hz 1 (by decide)
   replace z0:a=0:=z0
   replace z1:b=0:=z1
   subst z0 z1
   exact(if_pos rfl).trans ((if_pos rfl).trans (if_neg hn))
  ·have z0:=hz 0 (by decide)
   have z1:=hz 1 (by decide)
   have z2:=hz 2 (by decide)
   replace z0:a=0:=z0
   replace z1:b=0:=z1
   replace z2:c=0:=z2
   subst z0 z1 z2
   exact(if_pos rfl).trans ((if_pos rfl).trans (if_pos rfl))
 have HE:Hid ((∀j,j < 4→ [a,b,c,d].getD j 0=0)→orE a (orE b (orE c d))=0):=Lib.hid fun hz=>by
  have z0:=hz 0 (by decide)
  have z1:=hz 1 (by decide)
  have z2:=hz 2 (by decide)
  have z3:=hz 3 (by decide)
  replace z0:a=0:=z0
  replace z1:b=0:=z1
  replace z2:c=0:=z2
  replace z3:d=0:=z3
  subst z0 z1 z2 z3
  rfl
 generalize orE a (orE b (orE c d))=r at*
 generalize [a,b,c,d]=L at*
 clear h0 h1 h2 h3 hall
 go_enter Tryz.func44,Tryz.ntmps44
 go_wp2
 go_loopw [8] (fun v8 wr=> ∃i:Nat,v8= .int .i64 (i:Int)∧i≤4∧(∀j,j < i→L.getD j 0=0)∧w=wr) (fun v8 _=>4 - (intOf v8).toNat)
 case atStart=>exact⟨0,rfl,by omega,fun j h=>by omega,rfl⟩
 case round=>
  obtain⟨i,rfl,hi,hz,rfl⟩:=hrel
  have HZ:=Lib.hid hz
  clear hz
  by_cases hlt:i < 4
  ·have hc:=HA.out i hlt
   have HS:Hid (L.getD i 0=0→ ∀j,j < i+1→L.getD j 0=0):=Lib.hid fun e j hj=>by
    by_cases hji:j < i
    ·exact HZ.out j hji
    ·obtain rfl:j=i:=by omega
     exact e
   have HN:=Lib.hid (HF.out i hlt HZ.out)
   have HLT:=Lib.hid hlt
   generalize L.getD i 0=q at*
   clear hi
   by_cases hq:q=0
   ·subst hq
    go_wp2_with fail
    go_roundw
    case rel=>exact⟨i+1,by have:=HLT.out;go_num,by have:=HLT.out;omega,HS.out rfl,by trivial⟩
    case measure=>
     have:=HLT.out
     simp[intOf]
     omega
   ·have hqq:(q !=0)=true:=by simpa using hq
    have HR:=Lib.hid (HN.out hq)
    clear HN HS
    go_wp2_with fail
    go_ret
    exact⟨by rw[HR.out];rfl,rfl⟩
  ·obtain rfl:i=4:=by omega
   have HR:=Lib.hid (HE.out HZ.out)
   clear hlt hi
   go_wp2
   go_ret
   exact⟨by rw[HR.out];rfl,rfl⟩
set_option maxRecDepth 100000 in
set_option maxHeartbeats 8000000 in
theorem schCheck_any (s:Sch)(A:Option Addr)(n c:Nat)(A1:Option Addr)(n1 c1:Nat)(A2:Option Addr)(n2 c2:Nat)(v v':Value)(S X:Bo.Sr)(w:World)(h:SchAt w s A n c A1 n1 c1 A2 n2 c2)(hS:Bo.SrtIn w v S)(hX:Bo.SrtIn w v' X)(x:Int)(hx:s.check S X=x):
  Calls Tryz.prog 42 #[schV s A n c A1 n1 c1 A2 n2 c2,v,v'] w fun e w'=>e= .returned (.int .i64 x)∧Below w.heap.size w w':=by
 obtain⟨lv,ev,bo,sl,se⟩:=s
 unfold schV
 have hal:Below w.heap.size w (w.alloc (.cells #[.int .i64 lv,.int .i64 ev,.slice A n c,.slice A1 n1 c1,.slice A2 n2 c2] 49)):=(Below.refl _ _).alloc (Nat.le_refl _) _
 have hz:=Box.new w lv ev A n c A1 n1 c1 A2 n2 c2
 have H:=Lib.hid h
 have HS:=Lib.hid hS
 have HX:=Lib.hid hX
 have HR:=Lib.hid hx
 have hc:=check_any A n c bo _ (h.keep hal).b h.bf
 have HB:=Lib.hid hal
 clear h hS hX hx hal
 have hz2:=hz.z2
 go_enter Tryz.func42,Tryz.ntmps42
 go_wp2_with fail
 generalize w.alloc (.cells #[.int .i64 lv,.int .i64 ev,.slice A n c,.slice A1 n1 c1,.slice A2 n2 c2] 49)=wa at*
 generalize w.heap.size=g at hz hz2 ⊢
 refine hc.mono ?_
 rintro e w1 ⟨rfl,hv⟩
 replace hz:=hz.keep hv
 have hb2:=HB.out.trans (hv.mono HB.out.size)
 clear HB hc hv hz2 wa
 have HB:=Lib.hid hb2
 clear hb2
 by_cases h0:checkB bo=0
 case neg=>
  have hne:((checkB bo:Int) !=0)=true:=by simp;omega
  have hr:=HR.out
  unfold Sch.check at hr
  rw[if_neg h0] at hr
  clear HR hz h0
  simp only at hr
  rw[hr] at hne ⊢
  clear hr
  go_wp2_with fail
  go_ret
  exact⟨rfl,HB.out⟩
 have hr:=HR.out
 unfold Sch.check at hr
 rw[if_pos h0] at hr
 simp only at hr
 have HR2:=Lib.hid hr
 clear HR hr
 rw[h0]
 clear h0
 obtain⟨kl,hkl⟩: ∃k,(labB bo).length=k:=⟨_,rfl⟩
 obtain⟨ke,hke⟩: ∃k,(effB bo).length=k:=⟨_,rfl⟩
 have HKL:=Lib.hid (show kl≤256 by rw[← hkl];exact labB_len bo)
 have HKE:=Lib.hid (show ke≤256 by rw[← hke];exact Nat.le_trans (effB_len bo) (by decide))
 have hc:=of_len A n c bo _ _ kl ke w1 (H.out.keep HB.out).b H.out.bf rfl rfl hkl hke
 have HU1:=Lib.hid (labB_u64 H.out.bt)
 have HU2:=Lib.hid (effB_u64 H.out.bt)
 clear hkl hke
 have hz2:=hz.z2
 simp only at HU1 HU2
 generalize labB bo=ls at*
 generalize effB bo=es at*
 go_wp2_with fail
 refine hc.mono ?_
 rintro e w2 ⟨B1,d1,B2,d2,rfl,hT⟩
 have hv:=hT.bel
 replace hz:=hz.keep hv
 have hb2:=HB.out.trans (hv.mono HB.out.size)
 have H1:=Lib.hid hT.r1
 have H2:=Lib.hid hT.r2
 clear HB hc hv hz2 hT w1
 have HB:=Lib.hid hb2
 clear hb2
 obtain⟨x1,hx1⟩: ∃x,Bo.chkS S lv sl=x:=⟨_,rfl⟩
 obtain⟨x2,hx2⟩: ∃x,Bo.chkS X ev se=x:=⟨_,rfl⟩
 obtain⟨x3,hx3⟩: ∃x,Bo.chkS S lv (ls.map bnd)=x:=⟨_,rfl⟩
 obtain⟨x4,hx4⟩: ∃x,Bo.chkS X ev (es.map bnd)=x:=⟨_,rfl⟩
 rw[hx1,hx2,hx3,hx4] at HR2
 have HX1:=Lib.hid hx1
 have HX2:=Lib.hid hx2
 have HX3:=Lib.hid hx3
 have HX4:=Lib.hid hx4
 clear hx1 hx2 hx3 hx4
 go_wp2_with fail
 refine wp_region_ord [0,1,2,3,4,6,7,8,9,10,12,13,14,15,18,19,20,21,5,11,16,17,22,23,24,25,26] [5,11,16,17,22,23,24,25] 27 (fun w'=>Box w' g lv ev A n c A1 n1 c1 A2 n2 c2) (by kernel_rfl) (by kernel_rfl) (by kernel_rfl) (by kernel_rfl) (fun _ _ _ _ _ h=>h) (hz.keep (Below.refl _ w2).drew) ?_
 simp only[steps,List.getElem?_cons_zero,List.getElem?_cons_succ]
 repeat(first
  |(refine ord_no rfl ?_;simp only[Act.put,List.setIfInBounds_toArray,List.set_cons_zero,List.set_cons_succ])
  |(refine ord_yes (v:= ?_) rfl rfl ?_ ?_;rotate_left;(focus(rintro w' ⟨hS0,hS1,hS2,hS3,hS4⟩;go_simp;try with_reducible rfl));simp only[Act.put,List.setIfInBounds_toArray,List.set_cons_zero,List.set_cons_succ]))
 have hv:Below w2.heap.size w2 w2.drew:=(Below.refl _ _).drew
 replace hz:=hz.keep hv
 have hb2:=HB.out.trans (hv.mono HB.out.size)
 have h1:=H1.out.at_size (Nat.le_refl _) hv
 have h2:=H2.out.at_size (Nat.le_refl _) hv
 clear hv HB H1 H2
 have HB:=Lib.hid hb2
 clear hb2
 have H1:=Lib.hid h1
 have H2:=Lib.hid h2
 clear h1 h2
 generalize w2.drew=w3 at*
 refine ord_hard rfl rfl (fun K hK=> ?_)
 go_simp
 refine(Bo.check_any v lv A1 n1 c1 sl S w3 x1 (HS.out.keep HB.out) (H.out.keep HB.out).l H.out.lf HX1.out).mono ?_
 rintro e w4 ⟨rfl,hv⟩
 replace hz:=hz.keep hv
 have hb2:=HB.out.trans (hv.mono HB.out.size)
 have h1:=H1.out.at_size (Nat.le_refl _) hv
 have h2:=H2.out.at_size (Nat.le_refl _) hv
 clear hv HB H1 H2
 have HB:=Lib.hid hb2
 have H1:=Lib.hid h1
 have H2:=Lib.hid h2
 clear hb2 h1 h2
 refine hK.out _ _ (fun _=>hz) ?_
 clear hK K
 try simp only[Act.put,List.setIfInBounds_toArray,List.set_cons_zero,List.set_cons_succ]
 repeat(first
  |(refine ord_no rfl ?_;simp only[Act.put,List.setIfInBounds_toArray,List.set_cons_zero,List.set_cons_succ])
  |(refine ord_yes (v:= ?_) rfl rfl ?_ ?_;rotate_left;(focus(rintro w' ⟨hS0,hS1,hS2,hS3,hS4⟩;go_simp;try with_reducible rfl));simp only[Act.put,List.setIfInBounds_toArray,List.set_cons_zero,List.set_cons_succ]))
 refine ord_hard rfl rfl (fun K hK=> ?_)
 go_simp
 refine(Bo.check_any v' ev A2 n2 c2 se X w4 x2 (HX.out.keep HB.out) (H.out.keep HB.out).e H.out.ef HX2.out).mono ?_
 rintro e w5 ⟨rfl,hv⟩
 replace hz:=hz.keep hv
 have hb2:=HB.out.trans (hv.mono HB.out.size)
 have h1:=H1.out.at_size (Nat.le_refl _) hv
 have h2:=H2.out.at_size (Nat.le_refl _) hv
 clear hv HB H1 H2
 have HB:=Lib.hid hb2
 have H1:=Lib.hid h1
 have H2:=Lib.hid h2
 clear hb2 h1 h2
 refine hK.out _ _ (fun _=>hz) ?_
 clear hK K
 try simp only[Act.put,List.setIfInBounds_toArray,List.set_cons_zero,List.set_cons_succ]
 repeat(first
  |(refine ord_no rfl ?_;simp only[Act.put,List.setIfInBounds_toArray,List.set_cons_zero,List.set_cons_succ])
  |(refine ord_yes (v:= ?_) rfl rfl ?_ ?_;rotate_left;(focus(rintro w' ⟨hS0,hS1,hS2,hS3,hS4⟩;go_simp;try with_reducible rfl));simp only[Act.put,List.setIfInBounds_toArray,List.set_cons_zero,List.set_cons_succ]))
 refine ord_hard rfl rfl (fun K hK=> ?_)
 go_simp
 refine(eachB_any B1 kl d1 ls w5 H1.out HU1.out HKL.out).mono ?_
 rintro e w6 ⟨g1,rfl,-,hr,hv⟩
 replace hz:=hz.keep hv
 have hb2:=HB.out.trans (hv.mono HB.out.size)
 have h1:=H1.out.at_size (Nat.le_refl _) hv
 have h2:=H2.out.at_size (Nat.le_refl _) hv
 clear hv HB H1 H2
 have HB:=Lib.hid hb2
 have H1:=Lib.hid h1
 have H2:=Lib.hid h2
 clear hb2 h1 h2
 refine hK.out _ _ (fun _=>hz) ?_
 clear hK K
 try simp only[Act.put,List.setIfInBounds_toArray,List.set_cons_zero,List.set_cons_succ]
 repeat(first
  |(refine ord_no rfl ?_;simp only[Act.put,List.setIfInBounds_toArray,List.set_cons_zero,List.set_cons_succ])
  |(refine ord_yes (v:= ?_) rfl rfl ?_ ?_;rotate_left;(focus(rintro w' ⟨hS0,hS1,hS2,hS3,hS4⟩;go_simp;try with_reducible rfl));simp only[Act.put,List.setIfInBounds_toArray,List.set_cons_zero,List.set_cons_succ]))
 refine ord_hard rfl rfl (fun K hK=> ?_)
 go_simp
 refine(Bo.check_any v lv (some ⟨g1,0,none⟩) kl kl (ls.map bnd) S w6 x3 (HS.out.keep HB.out) hr (bnds_fit HU1.out) HX3.out).mono ?_
 rintro e w7 ⟨rfl,hv⟩
 replace hz:=hz.keep hv
 have hb2:=HB.out.trans (hv.mono HB.out.size)
 have h1:=H1.out.at_size (Nat.le_refl _) hv
 have h2:=H2.out.at_size (Nat.le_refl _) hv
 clear hr
 clear hv HB H1 H2
 have HB:=Lib.hid hb2
 have H1:=Lib.hid h1
 have H2:=Lib.hid h2
 clear hb2 h1 h2
 refine hK.out _ _ (fun _=>hz) ?_
 clear hK K
 try simp only[Act.put,List.setIfInBounds_toArray,List.set_cons_zero,List.set_cons_succ]
 repeat(first
  |(refine ord_no rfl ?_;simp only[Act.put,List.setIfInBounds_toArray,List.set_cons_zero,List.set_cons_succ])
  |(refine ord_yes (v:= ?_) rfl rfl ?_ ?_;rotate_left;(focus(rintro w' ⟨hS0,hS1,hS2,hS3,hS4⟩;go_simp;try with_reducible rfl));simp only[Act.put,List.setIfInBounds_toArray,List.set_cons_zero,List.set_cons_succ]))
 refine ord_hard rfl rfl (fun K hK=> ?_)
 go_simp
 refine(eachB_any B2 ke d2 es w7 H2.out HU2.out HKE.out).mono ?_
 rintro e w8 ⟨g2,rfl,-,hr,hv⟩
 replace hz:=hz.keep hv
 have hb2:=HB.out.trans (hv.mono HB.out.size)
 have h1:=H1.out.at_size (Nat.le_refl _) hv
 have h2:=H2.out.at_size (Nat.le_refl _) hv
 clear hv HB H1 H2
 have HB:=Lib.hid hb2
 have H1:=Lib.hid h1
 have H2:=Lib.hid h2
 clear hb2 h1 h2
 refine hK.out _ _ (fun _=>hz) ?_
 clear hK K
 try simp only[Act.put,List.setIfInBounds_toArray,List.set_cons_zero,List.set_cons_succ]
 repeat(first
  |(refine ord_no rfl ?_;simp only[Act.put,List.setIfInBounds_toArray,List.set_cons_zero,List.set_cons_succ])
  |(refine ord_yes (v:= ?_) rfl rfl ?_ ?_;rotate_left;(focus(rintro w' ⟨hS0,hS1,hS2,hS3,hS4⟩;go_simp;try with_reducible rfl));simp only[Act.put,List.setIfInBounds_toArray,List.set_cons_zero,List.set_cons_succ]))
 refine ord_hard rfl rfl (fun K hK=> ?_)
 go_simp
 refine(Bo.check_any v' ev (some ⟨g2,0,none⟩) ke ke (es.map bnd) X w8 x4 (HX.out.keep HB.out) hr (bnds_fit HU2.out) HX4.out).mono ?_
 rintro e w9 ⟨rfl,hv⟩
 replace hz:=hz.keep hv
 have hb2:=HB.out.trans (hv.mono HB.out.size)
 have h1:=H1.out.at_size (Nat.le_refl _) hv
 have h2:=H2.out.at_size (Nat.le_refl _) hv
 clear hr
 clear hv HB H1 H2
 have HB:=Lib.hid hb2
 have H1:=Lib.hid h1
 have H2:=Lib.hid h2
 clear hb2 h1 h2
 refine hK.out _ _ (fun _=>hz) ?_
 clear hK K
 try simp only[Act.put,List.setIfInBounds_toArray,List.set_cons_zero,List.set_cons_succ]
 repeat(first
  |(refine ord_no rfl ?_;simp only[Act.put,List.setIfInBounds_toArray,List.set_cons_zero,List.set_cons_succ])
  |(refine ord_yes (v:= ?_) rfl rfl ?_ ?_;rotate_left;(focus(rintro w' ⟨hS0,hS1,hS2,hS3,hS4⟩;go_simp;try with_reducible rfl));simp only[Act.put,List.setIfInBounds_toArray,List.set_cons_zero,List.set_cons_succ]))
 refine ord_hard rfl rfl (fun K hK=> ?_)
 go_simp
 have hv:Below w9.heap.size w9 (w9.alloc (.cells #[.int .i64 x1,.int .i64 x2,.int .i64 x3,.int .i64 x4] 51)):=(Below.refl _ _).alloc (Nat.le_refl _) _
 have hbx:=heap_alloc_new w9 (.cells #[.int .i64 x1,.int .i64 x2,.int .i64 x3,.int .i64 x4] 51)
 have o0:=(cell_blk (i:=0) hbx).trans rfl
 have o1:=(cell_blk (i:=1) hbx).trans rfl
 have o2:=(cell_blk (i:=2) hbx).trans rfl
 have o3:=(cell_blk (i:=3) hbx).trans rfl
 have hor:=or_any w9.heap.size x1 x2 x3 x4 _ o0 o1 o2 o3
 replace hz:=hz.keep hv
 have hb2:=HB.out.trans (hv.mono HB.out.size)
 clear hv HB H1 H2 hbx o0 o1 o2 o3
 have HB:=Lib.hid hb2
 clear hb2
 rw[HR2.out] at hor
 refine hK.out _ _ (fun _=>hz) ?_
 clear hK K
 try simp only[Act.put,List.setIfInBounds_toArray,List.set_cons_zero,List.set_cons_succ]
 repeat(first
  |(refine ord_no rfl ?_;simp only[Act.put,List.setIfInBounds_toArray,List.set_cons_zero,List.set_cons_succ])
  |(refine ord_yes (v:= ?_) rfl rfl ?_ ?_;rotate_left;(focus(rintro w' ⟨hS0,hS1,hS2,hS3,hS4⟩;go_simp;try with_reducible rfl));simp only[Act.put,List.setIfInBounds_toArray,List.set_cons_zero,List.set_cons_succ]))
 refine ord_hard rfl rfl (fun K hK=> ?_)
 go_simp
 refine hor.mono ?_
 rintro e w10 ⟨rfl,rfl⟩
 clear hor
 refine hK.out _ _ (fun _=>hz) ?_
 clear hK K
 try simp only[Act.put,List.setIfInBounds_toArray,List.set_cons_zero,List.set_cons_succ]
 repeat(first
  |(refine ord_no rfl ?_;simp only[Act.put,List.setIfInBounds_toArray,List.set_cons_zero,List.set_cons_succ])
  |(refine ord_yes (v:= ?_) rfl rfl ?_ ?_;rotate_left;(focus(rintro w' ⟨hS0,hS1,hS2,hS3,hS4⟩;go_simp;try with_reducible rfl));simp only[Act.put,List.setIfInBounds_toArray,List.set_cons_zero,List.set_cons_succ]))
 refine ord_end ?_
 go_wp2_with fail
 go_ret
 exact⟨rfl,HB.out⟩
theorem own_baseN {w:World}{b b' E sz n:Nat}{v:Value}{xs:List Value}(h:w.ownsRow b E sz v n xs)(hb:b'≤b):w.ownsRow b' E sz v n xs:=by
 refine⟨h.1,?_⟩
 rcases h.2 with h|⟨g,cap,cur,hv,hg,r⟩
 ·exact .inl h
 ·exact .inr ⟨g,cap,cur,hv,Nat.le_trans hb hg,r⟩
end Go.Proofs.YtmejhedegmjboaaGreat
