import Derived.Test.YtmejhedegmjboaaGreatPaL
set_option maxRecDepth 100000
set_option maxHeartbeats 16000000
namespace Go.Proofs.YtmejhedegmjboaaGreat.I
open Go.RowKit PaC
def enI (x:Nat):Value:= .int .i64 (x:Int)
theorem Zkm (x y:Nat)(h:enI x=enI y):x=y:=by
 simp[enI] at h
 omega
theorem lawI:Maps.Keyed Tryz.prog 3:=Maps.int_keyed Tryz.underlying3
theorem keyI {x:Nat}(h:x≤1000000): ∃l,keyOf Tryz.prog 3 (enI x)=some l:=⟨.int .i64 (x:Int),(keyOf_int Tryz.underlying3 _).trans (by simp[mapKey,enI,Tryz.underlying3];exact wf_i64 h)⟩
noncomputable def nmF (S:Bo.Sr) (z:Sen) (i:Nat):Nat→Option Nat:=fun h=>((List.range i).find? fun k=> !fixB S z k && decide ((cfg S z).home k=h)).map (cfg S z).num
section
variable {S:Bo.Sr} {z:Sen}
theorem ZhH:nmF S z 0=fun _=>none:=rfl
theorem Zfw {i:Nat}(h:fixB S z i=true):nmF S z (i+1)=nmF S z i∧(cfg S z).cnt (i+1)=(cfg S z).cnt i:=by
 refine⟨?_,?_⟩
 ·funext x
  unfold nmF
  rw[List.range_succ,List.find?_append]
  simp[h]
 ·(
 rw[UV]
 have:(cfg S z).lead i=false:=by(
 cases e:(cfg S z).lead i with
 |false=>rfl
 |true=>(
 have:=(ZU.1 e).1
 have h':(cfg S z).fx i=true:=h
 rw[h'] at this
 cases this))
 rw[this]
 rfl)
theorem ZhI {i v:Nat}(hf:fixB S z i=false)(h:nmF S z i ((cfg S z).home i)=some v):v=(cfg S z).num i∧nmF S z (i+1)=nmF S z i∧(cfg S z).cnt (i+1)=(cfg S z).cnt i:=by
 unfold nmF at h
 cases e:(List.range i).find? fun k=> !fixB S z k && decide ((cfg S z).home k=(cfg S z).home i) with
 |none=>rw[e] at h;cases h
 |some k=>(
 rw[e] at h
 have h1:=List.find?_some e
 have h2:=List.mem_of_find?_eq_some e
 simp only[Bool.and_eq_true,Bool.not_eq_true',decide_eq_true_eq] at h1
 have hk:k < i:=List.mem_range.1 h2
 have hn:(cfg S z).num k=(cfg S z).num i:=(VO (c:=cfg S z) h1.1 hf).2 h1.2
 refine⟨by rw[← hn];exact(Option.some.inj h).symm,?_,?_⟩
 ·(
 funext x
 unfold nmF
 rw[List.range_succ,List.find?_append]
 cases e2:(List.range i).find? fun k=> !fixB S z k && decide ((cfg S z).home k=x) with
 |some q=>rfl
 |none=>(
 have:([i]:List Nat).find? (fun k=> !fixB S z k && decide ((cfg S z).home k=x))=none:=by(
 rw[List.find?_eq_none]
 intro q hq
 rw[List.mem_singleton] at hq
 subst hq
 intro h3
 simp only[Bool.and_eq_true,Bool.not_eq_true',decide_eq_true_eq] at h3
 have:=List.find?_eq_none.1 e2 k h2
 rw[h1.1,h1.2,h3.2] at this
 simp at this)
 rw[this]
 rfl))
 ·(
 rw[UV]
 have:(cfg S z).lead i=false:=by(
 cases e3:(cfg S z).lead i with
 |false=>rfl
 |true=>exact absurd h1.2 ((ZU.1 e3).2 k hk h1.1))
 rw[this]
 rfl))
theorem ZhJ {i:Nat}(hf:fixB S z i=false)(h:nmF S z i ((cfg S z).home i)=none):(cfg S z).num i=(cfg S z).cnt i∧nmF S z (i+1)=putF (nmF S z i) ((cfg S z).home i) ((cfg S z).cnt i)∧(cfg S z).cnt (i+1)=(cfg S z).cnt i+1:=by
 have hl:(cfg S z).lead i=true:=ZU.2 ⟨hf,fun k hk h1 h2=>by
  unfold nmF at h
  rw[Option.map_eq_none_iff] at h
  have:=List.find?_eq_none.1 h k (List.mem_range.2 hk)
  have h1:fixB S z k=false:=h1
  rw[h1,h2] at this
  simp at this⟩
 have hn:(cfg S z).num i=(cfg S z).cnt i:=Zcg hl
 refine⟨hn,?_,by rw[UV,if_pos hl]⟩
 funext x
 unfold nmF putF
 rw[List.range_succ,List.find?_append]
 by_cases e:x=(cfg S z).home i
 ·(
 subst e
 unfold nmF at h
 rw[Option.map_eq_none_iff] at h
 rw[h,if_pos rfl]
 simp[hf,hn])
 ·(
 rw[if_neg e]
 have:([i]:List Nat).find? (fun k=> !fixB S z k && decide ((cfg S z).home k=x))=none:=by(
 rw[List.find?_eq_none]
 intro q hq
 rw[List.mem_singleton] at hq
 subst hq
 simp[hf,Ne.symm e])
 rw[this,Option.or_none])
noncomputable def trmI (S:Bo.Sr) (z:Sen) (i:Nat):List Tm:=(List.range i).map (trm S z)
theorem Zbg (S:Bo.Sr)(z:Sen)(i:Nat):trmI S z (i+1)=trmI S z i++ [trm S z i]:=by
 unfold trmI
 rw[List.range_succ,List.map_append]
 rfl
theorem Yk (S:Bo.Sr)(z:Sen)(i:Nat):(trmI S z i).length=i:=by simp[trmI]
theorem VS:trmI S z (lim z)=trmL S z∧(cfg S z).cnt (lim z)=trmN S z:=by
 unfold trmI trmL trmN lim
 split
 ·exact⟨rfl,rfl⟩
 ·exact⟨rfl,rfl⟩
theorem cnt_le (c:Cfg)(i:Nat):c.cnt i≤i:=by
 unfold Cfg.cnt
 have:=List.length_filter_le c.lead (List.range i)
 rw[List.length_range] at this
 exact this
theorem Zkn (w:World)(x:Bool)(y:Int):Rs tmc 2 (w.alloc (.cells #[.bool x,.int .u64 y] 62)) (w.alloc (.cells #[.bool x,.int .u64 y] 62)).heap.size (some ⟨w.heap.size,0,none⟩) 1 1 [(x,y)]:=
 Rs.of_blk ZK (heap_alloc_new w _) ⟨[],rfl⟩ rfl lR (by unfold maxLen;omega)
end
theorem Qi (v:Value)(S:Bo.Sr)(z:Sen)(A1:Option Addr)(n1 c1:Nat)(A2:Option Addr)(n2 c2:Nat)(A3:Option Addr)(n3 c3:Nat)(A4:Option Addr)(n4 c4:Nat)(w:World)(hs:Bo.VH w v S)(h:Zx w z A1 n1 c1 A2 n2 c2 A3 n3 c3 A4 n4 c4)(hn:n1≤400):
  Calls Tryz.prog 19 #[v,senV A1 n1 c1 A2 n2 c2 A3 n3 c3 A4 n4 c4] w fun e w'=> ∃A N c,e= .returned (.tuple #[.slice A N c,.int .i64 (trmN S z:Int)])∧w'.ownsRow w.heap.size 62 2 (.slice A N c) N ((trmL S z).flatMap tmc)∧Below w.heap.size w w':=by
 have hb0:Below w.heap.size w (w.alloc (.cells #[.slice A1 n1 c1,.slice A2 n2 c2,.slice A3 n3 c3,.slice A4 n4 c4] 28)):=bA
 have hz:=ZB.of (heap_alloc_new w (.cells #[.slice A1 n1 c1,.slice A2 n2 c2,.slice A3 n3 c3,.slice A4 n4 c4] 28))
 have HLK:=Hd (Zg2 v S z A1 n1 c1 A2 n2 c2 A3 n3 c3 A4 n4 c4 _ (hs.keep hb0) (h.keep hb0) hn)
 have HB0:=Hd hb0
 have HLIM:Hid (lim z≤400):=Hd (by
 have h1:=h.rp.len
 unfold lim
 split <;> omega)
 have z0:=hz.p0
 have z1:=hz.p1
 have z2:=hz.p2
 have z3:=hz.p3
 have hmm:= @run_makeMap Tryz.prog
 unfold senV at HLK ⊢
 clear hb0 hz hs h hn
 go_enter Tryz.func19,Tryz.ntmps19
 go_wp2_with fail
 refine HLK.out.mono ?_
 rintro e w1 ⟨F,nf,cf,X,nx,cx,V,nv,cv,O,no,co,rfl,htd,hrd,hv⟩
 have HB1:=Hd (HB0.out.trans (hv.mono HB0.out.size))
 have HTD:=Hd htd
 have HRD:=Hd hrd
 have HNF:=Hd htd.sz
 unfold tdV
 clear htd hrd hv HLK z0 z1 z2 z3
 have HSV:=Hd (HTD.out.srt)
 have ka:=heap_alloc_new w1 (.cells #[.nilIface,.slice none 0 0,.slice none 0 0,.slice none 0 0,.slice none 0 0,.slice none 0 0,.slice none 0 0,.slice none 0 0,.slice none 0 0] 108)
 have hsv:=ZaJ HSV.out (W:=w1.alloc (.cells #[.nilIface,.slice none 0 0,.slice none 0 0,.slice none 0 0,.slice none 0 0,.slice none 0 0,.slice none 0 0,.slice none 0 0,.slice none 0 0] 108)) (a:=⟨w1.heap.size,0,none⟩) ((Zb (i:=0) ka).trans rfl) (Zc ka)
 obtain⟨w2,hw2⟩: ∃w2,w1.alloc (.cells #[v,.slice A1 n1 c1,.slice A2 n2 c2,.slice A3 n3 c3,.slice A4 n4 c4,.slice F nf cf,.slice X nx cx,.slice V nv cv,.slice O no co] 108)=w2:=⟨_,rfl⟩
 obtain⟨w3,hw3⟩: ∃w3,w2.alloc (.map #[] 0)=w3:=⟨_,rfl⟩
 have k2:w2.heap[w1.heap.size]?=some (.cells #[v,.slice A1 n1 c1,.slice A2 n2 c2,.slice A3 n3 c3,.slice A4 n4 c4,.slice F nf cf,.slice X nx cx,.slice V nv cv,.slice O no co] 108 (0,0)):=by rw[← hw2];exact heap_alloc_new w1 _
 have b2:Below w1.heap.size w1 w2:=by rw[← hw2];exact bA
 have b3:Below w2.heap.size w2 w3:=hw3▸bA
 have HM3:Hid (ZT enI 3 60 .u64 w3 w2.heap.size 0 (fun _=>none)):=Hd (by rw[← hw3];exact ZT.made w2)
 have b13:Below w1.heap.size w1 w3:=b2.trans (b3.mono b2.size)
 have hx3:=TBx.of ((b3.block _ (Zh k2)).trans k2)
 have HX3:=Hd hx3
 have HTD3:=Hd (HTD.out.keep b13)
 have HR3:=Hd ((HRD.out.below b13).mono b13.size)
 have HB3:=Hd (HB1.out.trans (b13.mono HB1.out.size))
 have s2:w2.heap.size=w1.heap.size+1:=by rw[← hw2];simp
 rw[s2] at HM3
 have HS3:Hid (w1.heap.size+1 < w3.heap.size):=Hd HM3.out.lt
 have hw3':(w1.alloc (.cells #[v,.slice A1 n1 c1,.slice A2 n2 c2,.slice A3 n3 c3,.slice A4 n4 c4,.slice F nf cf,.slice X nx cx,.slice V nv cv,.slice O no co] 108)).alloc (.map #[] 0)=w3:=by rw[hw2];exact hw3
 have y5:=hx3.p5
 clear ka k2 b2 b3 b13 hx3 HTD HRD s2 hw3 hw2
 go_wp2_with fail
 clear hw3' y5 hsv
 obtain⟨bm,hbm⟩: ∃b,w1.heap.size+1=b:=⟨_,rfl⟩
 rw[hbm] at HM3 HS3
 simp only[hbm]
 go_loopw [4,20] (fun v4 v20 wr=> ∃(i:Nat) (A:Option Addr) (N c:Nat),v4= .slice A N c∧v20= .int .i64 (i:Int)∧i≤nf∧wr.ownsRow w3.heap.size 62 2 (.slice A N c) N ((trmI S z i).flatMap tmc)∧ZT enI 3 60 .u64 wr bm ((cfg S z).cnt i) (nmF S z i)∧Kept (· =bm) w3 wr) (fun _ v20 _=>nf - (intOf v20).toNat)
 case atStart=>exact⟨0,none,0,0,rfl,rfl,Nat.zero_le _,World.ownsRow_nil _ _ _ _,by rw[ZhH,show(cfg S z).cnt 0=0 from rfl];exact HM3.out,Kept.refl _ _⟩
 case round=>(
 obtain⟨i,A5,N5,c5,rfl,rfl,hi,hown,hmap,hk⟩:=hrel
 have HMAP:=Hd hmap
 have HOWN:=Hd hown
 have HK:=Hd hk
 have CK:Hid (∀(p:Addr) (u:Value),w3.cell? p=some u→wr.cell? p=some u):=Hd fun p u hc=>cell_kept HM3.out hk hc
 by_cases hlt:i < nf
 ·(
 have hlz:i < lim z:=by have:=HNF.out;omega
 obtain⟨bf,of,rfl,ef⟩:=HTD3.out.atF hlz
 obtain⟨bx,ox,rfl,ex⟩:=HTD3.out.atX hlz
 have y6:=CK.out _ _ HX3.out.p6
 replace ef:=CK.out _ _ ef
 replace ex:=CK.out _ _ ex
 have HLT:=Hd hlt
 have hN:=Zl ZK (by decide) hown
 have hN1:N5+1≤100000:=by have:=HNF.out;have:=HLIM.out;rw[Yk] at hN;omega
 have hin:(i:Int) < (nf:Int):=by omega
 have hinx:(i:Int) < (nx:Int):=by have:=HNF.out;omega
 have hi9:i≤60000:=by have:=HNF.out;have:=HLIM.out;omega
 have HADD:Hid (∀(W w':World) (m:Nat) (f:Nat→Option Nat) (A:Option Addr) (k' c':Nat) (vs:List Value),ZT enI 3 60 .u64 W bm m f→Kept (· =bm) w3 W→Appended W w' w3.heap.size 62 2 (.slice A5 N5 c5) (.slice A k' c') k' vs→W.ownsRow w3.heap.size 62 2 (.slice A5 N5 c5) N5 ((trmI S z i).flatMap tmc)→ZT enI 3 60 .u64 w' bm m f∧Kept (· =bm) w3 w'):=Hd fun W w' m f A k' c' vs h1 h2 h3 h4=>by
  have hb:Below w3.heap.size W w':=(Below.refl _ _).grown h3.grown h2.size fun j hj=>(h4.lt j hj).1
  exact⟨h1.move (hb.block bm HS3.out),Kept.then_below h2 hb⟩
 cases hfx:fixB S z i with
 |true=>(
 obtain⟨bv,ov,rfl,ev⟩:=HTD3.out.atV hlz hfx
 rw[hfx] at ex
 have y7:=CK.out _ _ HX3.out.p7
 replace ev:=CK.out _ _ ev
 have HNX:Hid (trmI S z (i+1)=trmI S z i++ [(false,(valF z i:Int))]):=Hd (by rw[Zbg,trm,if_pos hfx])
 have HFX:=Hd (Zfw (S:=S) hfx)
 have hinv:(i:Int) < (nv:Int):=by have:=HNF.out;omega
 generalize valF z i=vf at*
 generalize first z i=fi at*
 have HO:=Hd (Zkn wr false (vf:Int))
 have HAL:=Hd (show Below wr.heap.size wr (wr.alloc (.cells #[.bool false,.int .u64 (vf:Int)] 62)) from bA)
 have HW:=Hd (Zi hown HAL.out)
 have HK2:=Hd (hk.trans (Kept.of_below HAL.out))
 have HM2:=Hd (hmap.below HAL.out)
 have hsz2:w3.heap.size≤(wr.alloc (.cells #[.bool false,.int .u64 (vf:Int)] 62)).heap.size:=HK2.out.size
 clear hi hlt hlz hown hmap hk hN hfx
 go_wp2_with (at_builtin;refine Zk ZK (by decide) Ul Tryz.underlying29 Kv rfl (by decide) rfl (.tmp 30) (.tmp 37) rfl w3.heap.size _ N5 _ rfl HW.out _ _ 1 1 [(false,(vf:Int))] rfl HO.out hN1 hsz2 ?_;intro A' k' c' w' HKK HA)
 go_roundw
 case rel=>
  have h:=HADD.out _ w' _ _ A' k' c' _ HM2.out HK2.out HA.out HW.out
  exact⟨i+1,A',k',c',rfl,by go_num,HLT.out,by rw[HNX.out];exact HA.out.own,by rw[HFX.out.1,HFX.out.2];exact h.1,h.2⟩
 case measure=>(
 have:=HLT.out
 simp[intOf]
 omega))
 |false=>(
 rw[hfx] at ex
 have hfl:first z i < lim z:=Nat.lt_of_le_of_lt (Zds z i) hlz
 have hol:(oneL S z).length=lim z:=by unfold oneL;rw[ZaN]
 obtain⟨bo,oo,rfl,-,hco⟩:=HR3.out.spot (by have:=HR3.out.len;omega)
 have eo:=CK.out _ _ (hco (first z i) (by rw[hol];exact hfl))
 have eo2:(oneL S z)[first z i]'(by rw[hol];exact hfl)=(cfg S z).home i:=by simp[oneL,RL,Cfg.home,cfg]
 rw[eo2] at eo
 replace eo:wr.cell? ⟨bo,oo+first z i,none⟩=some (.int .i64 ((cfg S z).home i:Int)):=eo
 have y8:=CK.out _ _ HX3.out.p8
 have hfo:((first z i:Nat):Int) < (no:Int):=by have:=HR3.out.len;omega
 have hh9:(cfg S z).home i≤1000000:=by(
 have hw:=(ZP hlz)
 have:=(Zdi (Yw (S:=S) hw.1) (i:=i) hw.2 hfx).1
 have hl:=QQ hw.1
 have:(cfg S z).home i < z.p.length:=this
 have:=HLIM.out
 omega)
 have hf9:first z i≤60000:=by have:=HLIM.out;omega
 have HNX:Hid (trmI S z (i+1)=trmI S z i++ [(true,((cfg S z).num i:Int))]):=Hd (by rw[Zbg,trm,if_neg (by rw[hfx];simp)])
 have HSOME:Hid (∀v,nmF S z i ((cfg S z).home i)=some v→v=(cfg S z).num i∧nmF S z (i+1)=nmF S z i∧(cfg S z).cnt (i+1)=(cfg S z).cnt i):=Hd fun v e=>ZhI hfx e
 have HNONE:Hid (nmF S z i ((cfg S z).home i)=none→(cfg S z).num i=(cfg S z).cnt i∧nmF S z (i+1)=putF (nmF S z i) ((cfg S z).home i) ((cfg S z).cnt i)∧(cfg S z).cnt (i+1)=(cfg S z).cnt i+1):=Hd fun e=>ZhJ hfx e
 have HCL:Hid ((cfg S z).cnt i≤400):=Hd (by have:=cnt_le (cfg S z) i;have:=HLIM.out;omega)
 have HKEY:=Hd (keyI hh9)
 generalize (cfg S z).home i=hm at*
 generalize first z i=fi at*
 generalize (cfg S z).num i=nm at*
 clear hi hlt hlz hown hmap hk hN hfx hfl hol hco eo2 hh9
 obtain⟨o,ho⟩: ∃o,nmF S z i hm=o:=⟨_,rfl⟩
 have HOO:=Hd ho
 cases o with
 |some y=>(
 obtain⟨rfl,h2,h3⟩:=HSOME.out y ho
 have HH:=Hd (And.intro h2 h3)
 have HO:=Hd (Zkn wr true (y:Int))
 have HAL:=Hd (show Below wr.heap.size wr (wr.alloc (.cells #[.bool true,.int .u64 (y:Int)] 62)) from bA)
 have HW:=Hd (Zi HOWN.out HAL.out)
 have HK2:=Hd (HK.out.trans (Kept.of_below HAL.out))
 have HM2:=Hd (HMAP.out.below HAL.out)
 have hsz2:w3.heap.size≤(wr.alloc (.cells #[.bool true,.int .u64 (y:Int)] 62)).heap.size:=HK2.out.size
 clear ho h2 h3
 go_wp2_with (first
  |(at_lookup;refine VC rfl _ _ 110 rfl lawI Tryz.underlying110 Tryz.underlying60 QN HMAP.out rfl hm rfl HKEY.out y (by rw[HOO.out];rfl) true (by rw[HOO.out];rfl) ?_)
  |(at_lookup;refine QM rfl _ _ 110 rfl lawI Tryz.underlying110 Tryz.underlying60 QN HMAP.out rfl hm rfl HKEY.out y (by rw[HOO.out];rfl) ?_)
  |(at_builtin;refine Zk ZK (by decide) Ul Tryz.underlying29 Kv rfl (by decide) rfl (.tmp 57) (.tmp 62) rfl w3.heap.size _ N5 _ rfl HW.out _ _ 1 1 [(true,(y:Int))] rfl HO.out hN1 hsz2 ?_;intro A' k' c' w' HKK HA))
 go_roundw
 case rel=>
  have h:=HADD.out _ w' _ _ A' k' c' _ HM2.out HK2.out HA.out HW.out
  exact⟨i+1,A',k',c',rfl,by go_num,HLT.out,by rw[HNX.out];exact HA.out.own,by rw[HH.out.1,HH.out.2];exact h.1,h.2⟩
 case measure=>(
 have:=HLT.out
 simp[intOf]
 omega))
 |none=>(
 obtain⟨h1,h2,h3⟩:=HNONE.out ho
 have HH:=Hd (And.intro h2 h3)
 rw[← h1] at HMAP HH HCL
 clear h1 h2 h3 ho
 have hnm9:nm≤400:=HCL.out
 have HST:Hid (∀(w':World),ZT enI 3 60 .u64 w' bm (nm+1) (putF (nmF S z i) hm nm)→Kept (· =bm) wr w'→
   Rs tmc 2 (w'.alloc (.cells #[.bool true,.int .u64 (nm:Int)] 62)) (w'.alloc (.cells #[.bool true,.int .u64 (nm:Int)] 62)).heap.size (some ⟨w'.heap.size,0,none⟩) 1 1 [(true,(nm:Int))]∧
   (w'.alloc (.cells #[.bool true,.int .u64 (nm:Int)] 62)).ownsRow w3.heap.size 62 2 (.slice A5 N5 c5) N5 ((trmI S z i).flatMap tmc)∧ZT enI 3 60 .u64 (w'.alloc (.cells #[.bool true,.int .u64 (nm:Int)] 62)) bm (nm+1) (putF (nmF S z i) hm nm)∧
   Kept (· =bm) w3 (w'.alloc (.cells #[.bool true,.int .u64 (nm:Int)] 62))∧w3.heap.size≤(w'.alloc (.cells #[.bool true,.int .u64 (nm:Int)] 62)).heap.size):=Hd fun w' g1 g2=>by
  have hal:Below w'.heap.size w' (w'.alloc (.cells #[.bool true,.int .u64 (nm:Int)] 62)):=bA
  have hkk:=(HK.out.trans g2).trans (Kept.of_below (D:=(· =bm)) hal)
  refine⟨Zkn w' true (nm:Int),Zi (Zv HOWN.out fun q hq=> ?_) hal,g1.below hal,hkk,hkk.size⟩
  have h1:=HOWN.out.lt q hq
  exact g2.block q h1.2 (by have:=HS3.out;omega)
 go_wp2_with (first
  |(at_lookup;refine VC rfl _ _ 110 rfl lawI Tryz.underlying110 Tryz.underlying60 QN HMAP.out rfl hm rfl HKEY.out 0 (by rw[HOO.out];rfl) false (by rw[HOO.out];rfl) ?_)
  |(at_len;refine ZgL rfl _ 110 rfl Tryz.underlying110 HMAP.out rfl ?_)
  |(at_mapUpdate;refine Zdt rfl _ _ _ 110 rfl lawI Tryz.underlying110 Tryz.underlying60 Zkm HMAP.out rfl hm rfl HKEY.out nm rfl (wf64 (by omega)) (by unfold maxLen;omega) HOO.out ?_;intro w7 hm7 hk7;have HM7:=Hd hm7;have HST7:=Hd (HST.out w7 hm7 hk7);clear hm7 hk7)
  |(at_lookup;refine QM rfl _ _ 110 rfl lawI Tryz.underlying110 Tryz.underlying60 QN HM7.out rfl hm rfl HKEY.out nm (by rw[Vx];rfl) ?_)
  |(at_builtin;refine Zk ZK (by decide) Ul Tryz.underlying29 Kv rfl (by decide) rfl (.tmp 57) (.tmp 62) rfl w3.heap.size _ N5 _ rfl HST7.out.2.1 _ _ 1 1 [(true,(nm:Int))] rfl HST7.out.1 hN1 HST7.out.2.2.2.2 ?_;intro A' k' c' w' HKK HA))
 go_roundw
 case rel=>
  have h:=HADD.out _ w' _ _ A' k' c' _ HST7.out.2.2.1 HST7.out.2.2.2.1 HA.out HST7.out.2.1
  exact⟨i+1,A',k',c',rfl,by go_num,HLT.out,by rw[HNX.out];exact HA.out.own,by rw[HH.out.1,HH.out.2];exact h.1,h.2⟩
 case measure=>(
 have:=HLT.out
 simp[intOf]
 omega))))
 ·(
 obtain rfl:i=nf:=by omega
 have hmm2:=HMAP.out
 rw[HNF.out.1,VS.2] at hmm2
 have HMM:=Hd hmm2
 have HO:Hid (wr.ownsRow w.heap.size 62 2 (.slice A5 N5 c5) N5 ((trmL S z).flatMap tmc)):=Hd (Va (by rw[← VS.1, ← HNF.out.1];exact hown) HB3.out.size)
 have HBE:Hid (Below w.heap.size w wr):=Hd (HB3.out.trans (hk.below HB3.out.size fun b e=>by
  have:=HB1.out.size
  omega))
 clear hlt hi hown hmap hk hmm2
 go_wp2_with (at_len;refine ZgL rfl _ 110 rfl Tryz.underlying110 HMM.out rfl ?_)
 go_ret2
 exact⟨A5,N5,c5,rfl,HO.out,HBE.out⟩))
end Go.Proofs.YtmejhedegmjboaaGreat.I
namespace Go.Proofs.YtmejhedegmjboaaGreat
open Go.RowKit
theorem ZdY (m:Nat)(w:World)(hm:m≤60000):Calls Tryz.prog 142 #[.int .u64 1,.int .u64 (m:Int)] w fun e w'=>e= .returned (.tuple #[.int .u64 0,.int .u64 (m:Int)])∧w=w':=by
 have h1:bits .and .u64 (m:Int) 4294967295=(m:Int):=by(
 have:=u64_and_nat m 4294967295 (by omega) (by decide)
 rw[show((4294967295:Nat):Int)=4294967295 from rfl] at this
 rw[this,show(4294967295:Nat)=2 ^ 32 - 1 from rfl,Nat.and_two_pow_sub_one_eq_mod,Nat.mod_eq_of_lt (by omega)])
 have h2:(m:Int) / 4294967296=0:=by omega
 have h3:IntKind.u64.wrap (m:Int)=(m:Int):=by rw[IntKind.wrap_u64];omega
 have h4:bits .and .u64 1 4294967295=1:=by decide+kernel
 have h5:bits .and .u64 0 4294967295=0:=by decide+kernel
 have h6:IntKind.u64.wrap 0=0:=by decide+kernel
 go_enter Tryz.func142,Tryz.ntmps142
 go_wp2
 exact bodyPost_ret (v:= .tuple #[.int .u64 0,.int .u64 (m:Int)]) (by simp[results,Tryz.results142,go_sem]) rfl ⟨rfl,rfl⟩
theorem ZhB (m:Nat)(w:World)(hm:m≤60000):Calls Tryz.prog 105 #[.int .u64 1,.int .u64 (m:Int)] w fun e w'=>e= .returned (.tuple #[.int .u64 0,.int .u64 (m:Int)])∧w=w':=by
 go_enter Tryz.func105,Tryz.ntmps105
 go_wp2_with fail
 refine(ZdY m _ hm).mono ?_
 rintro e w1 ⟨rfl,rfl⟩
 go_wp2_with fail
 exact bodyPost_ret (v:= .tuple #[.int .u64 0,.int .u64 (m:Int)]) (by simp[results,Tryz.results105,go_sem]) rfl ⟨rfl,rfl⟩
def ZlE (w:World)(g:Nat)(d:Int)(m:Nat)(v8:Value)(wr:World):Prop:= ∃k:Nat,v8= .int .i64 (k:Int)∧k≤m∧(0 < m→0 < k)∧wr.heap[g]?=some (.cells (half d k m).toArray 3 (0,0))∧Below w.heap.size w wr
theorem ZbY (b o c:Nat)(d:Int)(m:Nat)(w:World)(hm:m≤60000)(hb:b < w.heap.size)(hc:w.cell? ⟨b,o,none⟩=some (.int .i64 d)):
  Calls Tryz.prog 60 #[.slice (some ⟨b,o,none⟩) 1 c,.int .i64 (m:Int)] w fun e w'=> ∃g,e= .returned (.slice (some ⟨g,0,none⟩) m m)∧w.heap.size≤g∧w'.heap[g]?=some (.cells (List.replicate m (.int .i64 d)).toArray 3 (0,0))∧Below w.heap.size w w':=by
 obtain⟨i0,hi0,hz0,hz1,hz2⟩:=info_parts YM
 have hw1:IntKind.u64.wrap (m:Int)=(m:Int):=by rw[IntKind.wrap_u64];omega
 have hw2:IntKind.i64.wrap (m:Int)=(m:Int):=by rw[IntKind.wrap_i64];omega
 have hneg: ¬(m:Int) < 0:=by omega
 have hbig: ¬(9223372036854775807:Int) < (m:Int):=by omega
 go_enter Tryz.func60,Tryz.ntmps60
 go_wp2_with fail
 refine(ZhB m _ hm).mono ?_
 rintro e w1 ⟨rfl,rfl⟩
 have hmk: ∀W,(Instr.makeSlice 82 (.int .i64 (m:Int)) (.int .i64 (m:Int))).run Tryz.prog W= .ok (.slice (some ⟨W.heap.size,0,none⟩) m m) (W.alloc (.cells (half d 0 m).toArray 3)):=by(
 intro W
 have:=run_make (P:=Tryz.prog) W 82 3 i0 _ Tryz.underlying82 hi0 hz0 .i64 .i64 m m (by omega) (Int.le_refl _) (by rw[hz2];omega) (by omega)
 rw[this,hz1,Nat.mul_one,Int.toNat_natCast,show(Value.int IntKind.i64 0).cells= #[.int .i64 0] from rfl]
 congr 3
 apply Array.ext
 ·simp[madeCells,half]
 ·intro i h1 h2
  simp[madeCells,half,Nat.mod_one])
 have hg0:=heap_alloc_new w (.cells (half d 0 m).toArray 3)
 have hb0:Below w.heap.size w (w.alloc (.cells (half d 0 m).toArray 3)):=bA
 obtain⟨q,hq⟩: ∃q,q=min 1 m:=⟨_,rfl⟩
 have H1:Hid ((List.replicate q (Value.int .i64 d)).length=Nat.min 1 m):=Hd (by rw[List.length_replicate];exact hq)
 have H2:Hid (∀j v,(List.replicate q (Value.int .i64 d))[j]?=some v→(w.alloc (.cells (half d 0 m).toArray 3)).cell? ((⟨b,o,none⟩:Addr).add j)=some v):=by(
 refine Hd fun j v hv=> ?_
 rw[List.getElem?_replicate] at hv
 split at hv
 ·(
 injection hv with hv
 subst hv
 obtain rfl:j=0:=by omega
 rw[Addr.add_lit,Nat.add_zero]
 exact(hb0.cell (p:=⟨b,o,none⟩) hb).trans hc)
 ·cases hv)
 have H3:Hid ((List.replicate q (Value.int .i64 d)).length≤(half d 0 m).length):=Hd (by rw[List.length_replicate,Ug d (by omega)];omega)
 have H4:Hid (∀v∈List.replicate q (Value.int .i64 d),v.oneCell'=true):=Hd fun v hv=>by rw[List.eq_of_mem_replicate hv];rfl
 have H5:Hid (splice (half d 0 m) 0 (List.replicate q (.int .i64 d))=half d q m):=Hd (by have:=VE d (k:=0) (j:=q) (m:=m) (by omega);rw[Nat.zero_add] at this;exact this)
 have H6:Hid ((List.replicate q (Value.int .i64 d)).length=q):=Hd (List.length_replicate ..)
 obtain⟨cs,hcs⟩: ∃cs,cs=List.replicate q (Value.int .i64 d):=⟨_,rfl⟩
 rw[← hcs] at H1 H2 H3 H4 H5 H6
 clear hcs
 obtain⟨cur,hcur⟩: ∃cur,cur=half d 0 m:=⟨_,rfl⟩
 rw[← hcur] at H2 H3 H5 hmk hg0 hb0
 clear hcur hc
 have HG:=Hd hg0
 have HQ:=Hd hq
 clear hg0 hq
 go_wp2_with (with_reducible refine wpList_copy_splice rfl (.tmp 31) (.tmp 32) 82 82 rfl 3 Tryz.underlying82 U7 (some ⟨w.heap.size,0,none⟩) (some ⟨b,o,none⟩) m m 1 c rfl rfl w.heap.size 0 cur 3 HG.out cs H1.out (fun _=>⟨rfl,_,rfl,H2.out⟩) (by rw[Nat.zero_add];exact H3.out) H4.out w.heap.size w hb0 lR ?_;intro w2 HG2 hb2)
 have hg2:w2.heap[w.heap.size]?=some (.cells (half d q m).toArray 3 (0,0)):=by rw[← H5.out];exact HG2.out
 rw[H6.out]
 have hqm:q≤m∧(0 < m→0 < q):=by have:=HQ.out;omega
 clear HG HG2 hb0 H1 H2 H3 H4 H5 H6 hmk cs cur HQ
 go_loopw [8] (fun v8 wr=>ZlE w w.heap.size d m v8 wr) (fun v8 _=>m - (intOf v8).toNat)
 case atStart=>exact⟨q,rfl,hqm.1,hqm.2,hg2,hb2⟩
 case round=>(
 clear hg2 hb2 hqm
 obtain⟨k,rfl,hk,hk0,hg,hbr⟩:=hrel
 by_cases hlt:k < m
 ·(
 have hkp:=hk0 (by omega)
 obtain⟨j,hj⟩: ∃j,j=min k (m - k):=⟨_,rfl⟩
 have hjm:k+j≤m:=by omega
 have hs1: ∀W,(Instr.slice 82 (.slice (some ⟨w.heap.size,0,none⟩) m m) (some (.int .i64 (k:Int))) none none).run Tryz.prog W= .ok (.slice (some ⟨w.heap.size,k,none⟩) (m - k) (m - k)) W:=by(
 intro W
 rw[run_slice_l W 82 _ _ _ (by rw[show Tryz.prog.elem 82=3 by simp[Program.elem,Tryz.underlying82]];exact Tryz.underlying82) .i64 _ (by omega) (by omega),show Tryz.prog.elem 82=3 by simp[Program.elem,Tryz.underlying82],VM]
 have: ¬m=k:=by omega
 simp[Result.andThen,sliced,this,Addr.add_lit])
 have hs2: ∀W,(Instr.slice 82 (.slice (some ⟨w.heap.size,0,none⟩) m m) none (some (.int .i64 (k:Int))) none).run Tryz.prog W= .ok (.slice (some ⟨w.heap.size,0,none⟩) k m) W:=by(
 intro W
 rw[run_slice_h W 82 _ _ _ (by rw[show Tryz.prog.elem 82=3 by simp[Program.elem,Tryz.underlying82]];exact Tryz.underlying82) .i64 _ (by omega) (by omega),show Tryz.prog.elem 82=3 by simp[Program.elem,Tryz.underlying82],VM]
 simp[Result.andThen,sliced,Addr.add_lit])
 have G1:Hid ((List.replicate j (Value.int .i64 d)).length=Nat.min k (m - k)):=Hd (by rw[List.length_replicate];exact hj)
 have G2:Hid (∀i v,(List.replicate j (Value.int .i64 d))[i]?=some v→wr.drew.cell? ((⟨w.heap.size,0,none⟩:Addr).add i)=some v):=
  Hd fun i v hv=>Ym (w:=wr.drew) hg (by omega) v hv
 have G3:Hid (k+(List.replicate j (Value.int .i64 d)).length≤(half d k m).length):=Hd (by rw[List.length_replicate,Ug d (by omega)];omega)
 have G4:Hid (∀v∈List.replicate j (Value.int .i64 d),v.oneCell'=true):=Hd fun v hv=>by rw[List.eq_of_mem_replicate hv];rfl
 have G5:Hid (splice (half d k m) k (List.replicate j (.int .i64 d))=half d (k+j) m):=Hd (VE d hjm)
 have G6:Hid ((List.replicate j (Value.int .i64 d)).length=j):=Hd (List.length_replicate ..)
 have G7:Hid (wr.drew.heap[w.heap.size]?=some (.cells (half d k m).toArray 3 (0,0))):=Hd hg
 have G8:Hid (Below w.heap.size w wr.drew):=Hd ⟨hbr.os,hbr.tape,hbr.output,hbr.size,hbr.block⟩
 obtain⟨cs,hcs⟩: ∃cs,cs=List.replicate j (Value.int .i64 d):=⟨_,rfl⟩
 rw[← hcs] at G1 G2 G3 G4 G5 G6
 clear hcs
 obtain⟨cur,hcur⟩: ∃cur,cur=half d k m:=⟨_,rfl⟩
 rw[← hcur] at G3 G5 G7
 clear hcur hg
 have HJ:=Hd hj
 clear hj
 go_wp2_with fail
 refine wro [0,1,2,3,4,5,6,7,8,9] [7,8,9] 10 (fun _=>True) (by kernel_rfl) (fun _ _ _ _ _ h=>h) trivial ?_
 simp only[steps,sE,sD]
 repeat(first
  |(refine Zd (v:= ?_) rfl rfl ?_ ?_;rotate_left;(focus(rintro w' -;go_simp;try with_reducible rfl));simp only[Act.put,sA,sB,sC]))
 refine Ze rfl rfl (fun K hK=> ?_)
 refine VF (.tmp 41) (.tmp 44) 82 82 rfl 3 Tryz.underlying82 U7 w.heap.size k (m - k) (m - k) ⟨w.heap.size,0,none⟩ k m rfl rfl cur 3 G7.out cs G1.out G2.out G3.out G4.out w.heap.size w G8.out lR ?_
 intro w4 hg4 hb4
 refine hK.out _ _ (fun _=>trivial) ?_
 clear hK K
 rw[G5.out] at hg4
 rw[show goInt cs.length= .int .i64 (j:Int) by rw[G6.out];rfl]
 have hwr:IntKind.i64.wrap ((k:Int)+(j:Int))=(k:Int)+(j:Int):=by rw[IntKind.wrap_i64];omega
 clear G1 G2 G3 G4 G5 G6 G7 G8
 simp only[Act.put,sA,sB,sC]
 refine Ze rfl rfl (fun K hK=> ?_)
 go_simp
 refine hK.out _ _ (fun _=>trivial) ?_
 clear hK K
 try simp only[Act.put,sA,sB,sC]
 refine Ze rfl rfl (fun K hK=> ?_)
 go_simp
 refine hK.out _ _ (fun _=>trivial) ?_
 clear hK K
 try simp only[Act.put,sA,sB,sC]
 refine Zg ?_
 have hj0:0 < j:=by have:=HJ.out;omega
 clear HJ
 go_wp2
 go_roundw
 case rel=>exact⟨k+j,by go_num,hjm,fun _=>by omega,hg4,hb4⟩
 case measure=>simp[intOf];omega)
 ·obtain rfl:k=m:=by omega
  go_wp2
  go_ret
  exact⟨w.heap.size,rfl,Nat.le_refl _,by rw[hg,Yl],hbr⟩)
end Go.Proofs.YtmejhedegmjboaaGreat
namespace Go.Proofs.YtmejhedegmjboaaGreat.I
open Go.RowKit PaC
def zcl (l:List Int):Array Value:=(l.map fun x=>Value.int .i64 x).toArray
theorem Zbb {l:List Int}{j:Nat}(h:j < l.length):(zcl l)[j]?=some (.int .i64 l[j]):=by
 rw[zcl,List.getElem?_toArray,List.getElem?_map,List.getElem?_eq_getElem h]
 rfl
theorem Zkd (l:List Int)(j:Nat)(v:Int):(zcl l).setIfInBounds j (.int .i64 v)=zcl (l.set j v):=by
 simp[zcl,List.map_set]
noncomputable def seatI (S:Bo.Sr) (z:Sen) (but n i:Nat):List Int:=(List.range n).map fun v=>optZ ((cfg S z).seat but v i)
theorem VD (S:Bo.Sr)(z:Sen)(but n i:Nat):(seatI S z but n i).length=n:=by simp[seatI]
theorem ZdZ (S:Bo.Sr)(z:Sen)(but n:Nat):List.replicate n (-1)=seatI S z but n 0:=by
 apply List.ext_getElem (by simp[seatI])
 intro k h1 h2
 simp[seatI,Cfg.seat,optZ]
theorem ZcU {S:Bo.Sr}{z:Sen}{but n i:Nat}(h:fixB S z i=true∨sd z i=but):seatI S z but n (i+1)=seatI S z but n i:=by
 apply List.map_congr_left
 intro v _
 congr 1
 rw[Cfg.seat,if_neg]
 intro e
 simp only[Bool.and_eq_true,Bool.not_eq_true',decide_eq_false_iff_not,decide_eq_true_eq] at e
 rcases h with h|h
 ·have e1:fixB S z i=false:=e.1
  rw[h] at e1
  cases e1
 ·exact e.2.1 h
theorem Zfn {S:Bo.Sr}{z:Sen}{but n i:Nat}(h:fixB S z i=false)(hs:sd z i≠but):seatI S z but n (i+1)=(seatI S z but n i).set ((cfg S z).num i) (i:Int):=by
 apply List.ext_getElem (by simp[seatI])
 intro v h1 h2
 rw[List.getElem_set]
 simp only[seatI,List.getElem_map,List.getElem_range]
 have hs':(cfg S z).sd i≠but:=hs
 have h':(cfg S z).fx i=false:=h
 rw[Cfg.seat]
 by_cases e:(cfg S z).num i=v
 ·rw[if_pos e,if_pos (by rw[h',e];simp[hs'])]
  rfl
 ·rw[if_neg e,if_neg (by simp[e])]
theorem Zfo (but:Nat)(S:Bo.Sr)(z:Sen)(A1:Option Addr)(n1 c1:Nat)(A2:Option Addr)(n2 c2:Nat)(A3:Option Addr)(n3 c3:Nat)(A4:Option Addr)(n4 c4:Nat)(A:Option Addr)(n c:Nat)(w:World)(h:Zx w z A1 n1 c1 A2 n2 c2 A3 n3 c3 A4 n4 c4)(hn:n1≤400)(hl:Rs tmc 2 w w.heap.size A n c (trmL S z)):
  Calls Tryz.prog 31 #[senV A1 n1 c1 A2 n2 c2 A3 n3 c3 A4 n4 c4,.slice A n c,.int .i64 (trmN S z:Int),.int .u8 (but:Int)] w fun e w'=> ∃g,e= .returned (.slice (some ⟨g,0,none⟩) (trmN S z) (trmN S z))∧w.heap.size≤g∧w'.heap[g]?=some (.cells (zcl (seatI S z but (trmN S z) (lim z))) 3 (0,0))∧Below w.heap.size w w':=by
 have hb0:Below w.heap.size w (w.alloc (.cells #[.slice A1 n1 c1,.slice A2 n2 c2,.slice A3 n3 c3,.slice A4 n4 c4] 28)):=bA
 have hz:=ZB.of (heap_alloc_new w (.cells #[.slice A1 n1 c1,.slice A2 n2 c2,.slice A3 n3 c3,.slice A4 n4 c4] 28))
 have HLIM:Hid (lim z≤400∧lim z≤n1):=Hd (by
 have h1:=h.rp.len
 unfold lim
 split <;> omega)
 have HTN:Hid (trmN S z≤400):=Hd (by
 rw[← VS.2]
 have:=cnt_le (cfg S z) (lim z)
 have:=HLIM.out
 omega)
 have HLN:Hid (n=lim z):=Hd (by rw[← hl.len, ← VS.1,Yk])
 have HSEN:Hid (∀W,Below w.heap.size w W→Zx W z A1 n1 c1 A2 n2 c2 A3 n3 c3 A4 n4 c4):=Hd fun W hW=>h.keep hW
 have HTM:Hid (∀W,Below w.heap.size w W→Rs tmc 2 W W.heap.size A n c (trmL S z)):=Hd fun W hW=>hl.at_size lR hW
 obtain⟨w1,hw1⟩: ∃w1,(w.alloc (.cells #[.slice A1 n1 c1,.slice A2 n2 c2,.slice A3 n3 c3,.slice A4 n4 c4] 28)).alloc (.cells #[.int .i64 (-1)] 3)=w1:=⟨_,rfl⟩
 have sx:(w.alloc (.cells #[.slice A1 n1 c1,.slice A2 n2 c2,.slice A3 n3 c3,.slice A4 n4 c4] 28)).heap.size=w.heap.size+1:=World.size_alloc _ _
 have b1:Below (w.alloc (.cells #[.slice A1 n1 c1,.slice A2 n2 c2,.slice A3 n3 c3,.slice A4 n4 c4] 28)).heap.size (w.alloc (.cells #[.slice A1 n1 c1,.slice A2 n2 c2,.slice A3 n3 c3,.slice A4 n4 c4] 28)) w1:=hw1▸bA
 have hk1:w1.heap[w.heap.size+1]?=some (.cells #[.int .i64 (-1)] 3 (0,0)):=by rw[← sx, ← hw1];exact heap_alloc_new _ _
 have hz1:=hz.keep b1
 have HB1:=Hd (hb0.trans (b1.mono hb0.size))
 have HZ1:=Hd hz1
 have HRP:=Hd (ZbY (w.heap.size+1) 0 1 (-1) (trmN S z) w1 (by have:=HTN.out;omega) (Zh hk1) ((Zb (i:=0) hk1).trans rfl))
 obtain⟨tn,htn⟩: ∃x,trmN S z=x:=⟨_,rfl⟩
 rw[htn] at HRP HTN ⊢
 have HTT:=Hd htn
 unfold senV
 clear hb0 hz h hl hk1 hz1 b1 sx htn
 go_enter Tryz.func31,Tryz.ntmps31
 go_wp2_with fail
 refine HRP.out.mono ?_
 rintro e w2 ⟨g,rfl,hg,hk,hv⟩
 have HG:Hid (w1.heap.size≤g):=Hd hg
 have HG2:Hid (w2.heap[g]?=some (.cells (zcl (seatI S z but tn 0)) 3 (0,0))):=Hd (by rw[← ZdZ,hk];simp[zcl])
 have HB2:=Hd hv
 clear hg hk hv HRP hw1
 go_wp2_with fail
 go_loopw [17] (fun v17 wr=> ∃i:Nat,v17= .int .i64 (i:Int)∧i≤n∧wr.heap[g]?=some (.cells (zcl (seatI S z but tn i)) 3 (0,0))∧Below w1.heap.size w1 wr) (fun v17 _=>n - (intOf v17).toNat)
 case atStart=>exact⟨0,rfl,Nat.zero_le _,HG2.out,HB2.out⟩
 case round=>(
 clear HG2 HB2
 obtain⟨i,rfl,hi,hk,hb⟩:=hrel
 have hbw:=HB1.out.trans (hb.mono HB1.out.size)
 by_cases hlt:i < n
 ·(
 have hlz:i < lim z:=by have:=HLN.out;omega
 obtain⟨hw,hip⟩:=ZP hlz
 have hil:i < (trmL S z).length:=by rw[← VS.1,Yk];exact hlz
 obtain⟨b6,o6,rfl,-,u0,u1⟩:=Ue (HTM.out wr hbw) hil
 have et:(trmL S z)[i]=trm S z i:=by simp only[trmL,if_pos hw,List.getElem_map,List.getElem_range]
 rw[et] at u0 u1
 obtain⟨p0,o0,rfl,-,-,-,e2,-,-⟩:=Z7 (HSEN.out wr hbw).rp hip
 have HSD:Hid (sd z i=z.p[i].s):=Hd (ZaE hip)
 generalize z.p[i].s=xs at*
 have y0:=(HZ1.out.keep hb).p0
 have HLT:=Hd hlt
 have HBR:=Hd hb
 have HKR:=Hd hk
 have hin:(i:Int) < (n:Int):=by omega
 have hin1:(i:Int) < (n1:Int):=by have:=HLIM.out;omega
 have hi9:i≤60000:=by have:=HLN.out;have:=HLIM.out;omega
 cases hfx:fixB S z i with
 |true=>(
 have e:trm S z i=(false,(valF z i:Int)):=by unfold trm;rw[if_pos hfx]
 rw[e] at u0 u1
 generalize (valF z i:Int)=vf at*
 have HNX:Hid (seatI S z but tn (i+1)=seatI S z but tn i):=Hd (ZcU (.inl hfx))
 have HAL:=Hd (show Below wr.heap.size wr (wr.alloc (.cells #[.bool false,.int .u64 vf] 62)) from bA)
 have y0:=Za y0 HAL.out
 have e2:=Za e2 HAL.out
 clear hi hk hb hbw hlt hlz hw hip hil et hfx e
 go_wp2_with fail
 go_roundw
 case rel=>exact⟨i+1,by go_num,HLT.out,by rw[HNX.out];exact(HAL.out.block g (Zh HKR.out)).trans HKR.out,HBR.out.trans (HAL.out.mono HBR.out.size)⟩
 case measure=>(
 have:=HLT.out
 simp[intOf]
 omega))
 |false=>(
 have e:trm S z i=(true,((cfg S z).num i:Int)):=by unfold trm;rw[if_neg (by rw[hfx];simp)]
 rw[e] at u0 u1
 have hnum:(cfg S z).num i < tn:=by
  rw[← HTT.out, ← VS.2]
  exact Zjm hfx hlz
 by_cases hsb:xs=but
 ·(
 subst hsb
 have g1:((xs:Int) !=(xs:Int))=false:=by simp
 have HNX:Hid (seatI S z xs tn (i+1)=seatI S z xs tn i):=Hd (ZcU (.inr HSD.out))
 generalize (cfg S z).num i=nm at*
 have HAL:=Hd (show Below wr.heap.size wr (wr.alloc (.cells #[.bool true,.int .u64 (nm:Int)] 62)) from bA)
 have y0:=Za y0 HAL.out
 have e2:=Za e2 HAL.out
 clear hi hk hb hbw hlt hlz hw hip hil et hfx e hnum
 go_wp2_with fail
 go_roundw
 case rel=>exact⟨i+1,by go_num,HLT.out,by rw[HNX.out];exact(HAL.out.block g (Zh HKR.out)).trans HKR.out,HBR.out.trans (HAL.out.mono HBR.out.size)⟩
 case measure=>(
 have:=HLT.out
 simp[intOf]
 omega))
 ·(
 have g1:((xs:Int) !=(but:Int))=true:=by simp;omega
 have HNX:Hid (seatI S z but tn (i+1)=(seatI S z but tn i).set ((cfg S z).num i) (i:Int)):=Hd (Zfn hfx (by rw[HSD.out];exact hsb))
 generalize (cfg S z).num i=nm at*
 have HAL:=Hd (show Below wr.heap.size wr (wr.alloc (.cells #[.bool true,.int .u64 (nm:Int)] 62)) from bA)
 have y0:=Za y0 HAL.out
 have e2:=Za e2 HAL.out
 have HKA:=Hd ((HAL.out.block g (Zh HKR.out)).trans HKR.out)
 have d0:=(Zb (i:=nm) HKA.out).trans (Zbb (by rw[VD];exact hnum))
 have f0:=Zc (i:=nm) HKA.out
 have hnn:(nm:Int) < (tn:Int):=by omega
 have hn9:nm≤60000:=by have:=HTN.out;omega
 have HST:=Hd (Zm (i:=nm) HKA.out (.int .i64 (i:Int)))
 have HBS:=Hd (Zp (HBR.out.trans (HAL.out.mono HBR.out.size)) HG.out (p:=⟨g,nm,none⟩) (.int .i64 (i:Int)))
 generalize (seatI S z but tn i)[nm]'_=vx at*
 clear hi hk hb hbw hlt hlz hw hip hil et hfx e hsb
 go_wp2_with fail
 go_roundw
 case rel=>exact⟨i+1,by go_num,HLT.out,by rw[HNX.out, ← Zkd];exact HST.out,HBS.out⟩
 case measure=>(
 have:=HLT.out
 simp[intOf]
 omega))))
 ·(
 obtain rfl:n=i:=by omega
 have HK:Hid (wr.heap[g]?=some (.cells (zcl (seatI S z but tn (lim z))) 3 (0,0))):=Hd (by rw[← HLN.out];exact hk)
 have HBW:=Hd hbw
 have HGG:Hid (w.heap.size≤g):=Hd (Nat.le_trans HB1.out.size HG.out)
 clear hlt hi hk hb hbw
 go_wp2_with fail
 go_ret
 exact⟨g,rfl,HGG.out,HK.out,HBW.out⟩))
theorem UU (v:Value)(S:Bo.Sr)(w:World)(hs:Bo.VH w v S):Calls Tryz.prog 32 #[v] w fun e w'=>e= .returned (.tuple #[.int .u64 (S.bot:Int),.int .u64 (S.top:Int)])∧Below w.heap.size w w':=by
 rcases hs with⟨rfl,rfl⟩|hs
 ·go_enter Tryz.func32,Tryz.ntmps32
  go_wp2
  go_ret2
  exact⟨rfl,Below.refl _ _⟩
 ·(
 rcases hs with⟨a,rfl,hA⟩|⟨a,rfl,hA⟩|⟨rfl,hA⟩
 all_goals(
 have HC:=Hd (hA.bot w (Below.refl _ _))
 have HD:=Hd fun W (hW:Below w.heap.size w W)=>hA.top W hW
 generalize S.bot=x at*
 generalize S.top=y at*
 clear hA
 go_enter Tryz.func32,Tryz.ntmps32
 go_wp2_with fail
 refine HC.out.mono ?_
 rintro e w1 ⟨rfl,hb⟩
 have HB:=Hd hb
 clear hb HC
 go_wp2_with fail
 refine(HD.out w1 HB.out).mono ?_
 rintro e w2 ⟨rfl,hb⟩
 have HB2:=Hd (HB.out.trans (hb.mono HB.out.size))
 clear hb HD
 go_wp2_with fail
 go_ret2
 exact⟨rfl,HB2.out⟩))
end Go.Proofs.YtmejhedegmjboaaGreat.I
namespace Go.Proofs.YtmejhedegmjboaaGreat.I
open Go.RowKit PaC
theorem Zmq:(Tryz.prog.info? 71).map (fun i=>(i.zero,i.size,i.bytes))=some (some (.slice none 0 0),1,24):=by kernel_rfl
theorem Zlc (n:Nat)(h:n≤60000)(W:World):(Instr.makeSlice 26 (.int .i64 (n:Int)) (.int .i64 (n:Int))).run Tryz.prog W= .ok (.slice (some ⟨W.heap.size,0,none⟩) n n) (W.alloc (.cells (Array.replicate n (Value.slice none 0 0)) 71)):=by
 obtain⟨i0,hi0,hz0,hz1,hz2⟩:=info_parts Zmq
 have:=run_make (P:=Tryz.prog) W 26 71 i0 _ Tryz.underlying26 hi0 hz0 .i64 .i64 n n (by omega) (Int.le_refl _) (by rw[hz2];omega) (by omega)
 rw[this,hz1,Nat.mul_one,Int.toNat_natCast]
 rw[show(Value.slice none 0 0).cells= #[.slice none 0 0] from rfl,show madeCells #[.slice none 0 0] n=Array.replicate n (Value.slice none 0 0) from ?_]
 apply Array.ext
 ·simp[madeCells]
 ·intro i h1 h2
  simp[madeCells,Nat.mod_one]
def undM (S:Bo.Sr)(z:Sen)(dz uz:Option Nat):Bool:=match dz,uz with
 |some d,some u=>bb z d u && !S.below (hg z d) (lw z u)
 |_,_=>false
theorem Zld (S:Bo.Sr)(z:Sen)(v w:Nat):undB S z v w=(!decide (v=w) && undM S z ((cfg S z).out v) ((cfg S z).inn w)):=by
 unfold undB undM
 cases (cfg S z).out v <;> cases (cfg S z).inn w <;> rfl
noncomputable def undI (S:Bo.Sr) (z:Sen) (v j:Nat):List Bool:=(List.range j).map (undB S z v)
theorem ZgV (S:Bo.Sr)(z:Sen)(v j:Nat):undI S z v (j+1)=undI S z v j++ [undB S z v j]:=by
 unfold undI
 rw[List.range_succ,List.map_append]
 rfl
theorem ZaI (S:Bo.Sr)(z:Sen)(v j:Nat):(undI S z v j).length=j:=by simp[undI]
def RowD (S:Bo.Sr)(z:Sen)(base tn:Nat)(us:List Value)(W:World)(k:Nat)(cur:Value):Prop:=
 ∃b c,us[k]?=some (.slice (some ⟨b,0,none⟩) tn c)∧base≤b∧b < W.heap.size∧cur.ownBlock≠some b∧ ∀j < tn,W.cell? ⟨b,j,none⟩=some (.bool (undB S z k j))
structure UnI (S:Bo.Sr)(z:Sen)(w3:World)(go tn v j:Nat)(A:Option Addr)(N c:Nat)(us:List Value)(W:World):Prop where
 g:W.heap[go]?=some (.cells us.toArray 71 (0,0))
 len:us.length=tn
 done: ∀k < v,RowD S z w3.heap.size tn us W k (.slice A N c)
 cur:v < tn→us[v]?=some (.slice A N c)
 own:W.ownsRow w3.heap.size 4 1 (.slice A N c) N ((undI S z v j).flatMap enB)
 rest: ∀k,v < k→k < tn→us[k]?=some (.slice none 0 0)
 b:Kept (· =go) w3 W
 lt:go < w3.heap.size
section
variable {S:Bo.Sr} {z:Sen} {w3:World} {go tn v j:Nat} {A:Option Addr} {N c:Nat} {us:List Value} {W W':World}
theorem UnI.behind (h:UnI S z w3 go tn v j A N c us W)(hb:Below W.heap.size W W'):UnI S z w3 go tn v j A N c us W':=
 ⟨(hb.block _ (Zh h.g)).trans h.g,h.len,fun k hk=>by
  obtain⟨b,c',e1,e2,e3,e4,e5⟩:=h.done k hk
  exact⟨b,c',e1,e2,Nat.lt_of_lt_of_le e3 hb.size,e4,fun j hj=>Za (e5 j hj) hb⟩,h.cur,Zi h.own hb,h.rest,h.b.trans (Kept.of_below hb),h.lt⟩
theorem UnI.add (h:UnI S z w3 go tn v j A N c us W)(hv:v < tn){A':Option Addr}{N' c':Nat}(ha:Appended W W' w3.heap.size 4 1 (.slice A N c) (.slice A' N' c') N' ((undI S z v j++ [undB S z v j]).flatMap enB)):
  W'.cell? ⟨go,v,none⟩=some (.slice A N c)∧W'.frozen? ⟨go,v,none⟩=false∧UnI S z w3 go tn v (j+1) A' N' c' (us.set v (.slice A' N' c')) (W'.setCell ⟨go,v,none⟩ (.slice A' N' c')):=by
 have hb:Below w3.heap.size W W':=(Below.refl _ _).grown ha.grown h.b.size fun q hq=>(h.own.lt q hq).1
 have hg:=(hb.block go h.lt).trans h.g
 have off: ∀b,b≠go→(W'.setCell ⟨go,v,none⟩ (.slice A' N' c')).heap[b]?=W'.heap[b]?:=fun b hb=>Below.heap_setCell _ ⟨go,v,none⟩ _ b hb
 refine⟨?_,Zc hg,⟨?_,by rw[List.length_set];exact h.len,fun k hk=> ?_,fun _=> ?_,?_,fun k h1 h2=> ?_,?_,h.lt⟩⟩
 ·rw[Zb hg]
  simp only[List.getElem?_toArray]
  exact h.cur hv
 ·rw[Zm hg,sA]
 ·(
 obtain⟨b,c0,e1,e2,e3,e4,e5⟩:=h.done k hk
 have hw:W'.heap[b]?=W.heap[b]?:=ha.grown.block b e3 fun e=>e4 e.symm
 have hne:b≠go:=by have:=h.lt;omega
 refine⟨b,c0,?_,e2,Nat.lt_of_lt_of_le e3 (by rw[World.size_setCell];exact ha.grown.size),ha.apart e3 e4,fun j hj=> ?_⟩
 ·rw[List.getElem?_set_ne (by omega)]
  exact e1
 ·exact(World.cell?_of_block (a:=⟨b,j,none⟩) ((off b hne).trans hw)).trans (e5 j hj))
 ·rw[List.getElem?_set_self (by rw[h.len];exact hv)]
 ·(
 rw[ZgV]
 exact Zv ha.own fun q hq=>off q (by
 have:=(ha.own.lt q hq).1
 have:=h.lt
 omega))
 ·rw[List.getElem?_set_ne (by omega)]
  exact h.rest k h1 h2
 ·exact(Kept.then_below h.b hb).setCell (p:=⟨go,v,none⟩) (.inl rfl) _
theorem UnI.next (h:UnI S z w3 go tn v tn A N c us W)(hv:v < tn):UnI S z w3 go tn (v+1) 0 none 0 0 us W:=by
 have hN:N=tn:=by(
 have:=Zl Vq (by decide) h.own
 rw[ZaI] at this
 exact this.symm)
 have hrd:=ZgP h.own
 obtain⟨b,o,e,hb,hc⟩:=hrd.spot (by omega)
 subst e
 have ho:o=0:=by(
 rcases h.own.2 with⟨h0,-⟩|⟨g,cap,cur,hv',-⟩
 ·cases h0
 ·injection hv' with h1
  injection h1 with h1
  injection h1 with h1 h2)
 subst ho
 subst hN
 refine⟨h.g,h.len,fun k hk=> ?_,fun h1=>h.rest (v+1) (Nat.lt_succ_self _) h1,World.ownsRow_nil _ _ _ _,fun k h1 h2=>h.rest k (by omega) h2,h.b,h.lt⟩
 by_cases e:k=v
 ·(
 subst e
 refine⟨b,c,h.cur hv,(QR h.own).1,hb,(fun e=>by cases e),fun j hj=> ?_⟩
 have:=hc j (by rw[ZaI];exact hj)
 rw[Nat.zero_add] at this
 rw[this]
 simp[undI])
 ·obtain⟨b',c',e1,e2,e3,e4,e5⟩:=h.done k (by omega)
  exact⟨b',c',e1,e2,e3,(fun e=>by cases e),e5⟩
end
structure UnR (w:World)(g d u:Nat)(n2 c2 n3 c3 b4 o4 n4 c4 b3 o3 b2 o2 bd od yd n1 x y:Nat)(r:Bool):Prop where
 a1:w.cell? ⟨g,1,none⟩=some (.slice (some ⟨b2,o2,none⟩) n2 c2)
 a2:w.cell? ⟨g,2,none⟩=some (.slice (some ⟨b3,o3,none⟩) n3 c3)
 a3:w.cell? ⟨g,3,none⟩=some (.slice (some ⟨b4,o4,none⟩) n4 c4)
 rd:w.cell? ⟨b4,o4+d,none⟩=some (.slice (some ⟨bd,od,none⟩) n1 yd)
 ru:w.cell? ⟨bd,od+u,none⟩=some (.bool r)
 xd:w.cell? ⟨b3,o3+d,none⟩=some (.int .u64 (x:Int))
 xu:w.cell? ⟨b2,o2+u,none⟩=some (.int .u64 (y:Int))
noncomputable def outL (S:Bo.Sr) (z:Sen) (n:Nat):List Int:=seatI S z 0 n (lim z)
noncomputable def innL (S:Bo.Sr) (z:Sen) (n:Nat):List Int:=seatI S z 1 n (lim z)
theorem Zju {S:Bo.Sr}{z:Sen}(hw:Zn z=true){n v:Nat}(h:v < n):(outL S z n)[v]'(by rw[outL,VD];exact h)=optZ ((cfg S z).out v):=by
 simp only[outL,seatI,List.getElem_map,List.getElem_range,Cfg.out,QQ hw]
 rfl
theorem Zjv {S:Bo.Sr}{z:Sen}(hw:Zn z=true){n v:Nat}(h:v < n):(innL S z n)[v]'(by rw[innL,VD];exact h)=optZ ((cfg S z).inn v):=by
 simp only[innL,seatI,List.getElem_map,List.getElem_range,Cfg.inn,QQ hw]
 rfl
theorem RU {S:Bo.Sr}{z:Sen}{v:Nat}(h:v < trmN S z):Zn z=true:=by
 unfold trmN at h
 split at h
 ·rename_i e;exact e
 ·omega
theorem Zex (v:Value)(S:Bo.Sr)(z:Sen)(A1:Option Addr)(n1 c1:Nat)(A2:Option Addr)(n2 c2:Nat)(A3:Option Addr)(n3 c3:Nat)(A4:Option Addr)(n4 c4:Nat)(g1 g2:Nat)(w:World)(hs:Bo.VH w v S)(h:Zx w z A1 n1 c1 A2 n2 c2 A3 n3 c3 A4 n4 c4)(hn:n1≤400)(hh:w.heap[g1]?=some (.cells (zcl (outL S z (trmN S z))) 3 (0,0)))(hl:w.heap[g2]?=some (.cells (zcl (innL S z (trmN S z))) 3 (0,0))):
  Calls Tryz.prog 33 #[v,senV A1 n1 c1 A2 n2 c2 A3 n3 c3 A4 n4 c4,.slice (some ⟨g1,0,none⟩) (trmN S z) (trmN S z),.slice (some ⟨g2,0,none⟩) (trmN S z) (trmN S z)] w fun e w'=> ∃(go:Nat) (us:List Value) (w3:World),e= .returned (.slice (some ⟨go,0,none⟩) (trmN S z) (trmN S z))∧UnI S z w3 go (trmN S z) (trmN S z) 0 none 0 0 us w'∧Below w.heap.size w w':=by
 have hb0:Below w.heap.size w (w.alloc (.cells #[.slice A1 n1 c1,.slice A2 n2 c2,.slice A3 n3 c3,.slice A4 n4 c4] 28)):=bA
 have hz:=ZB.of (heap_alloc_new w (.cells #[.slice A1 n1 c1,.slice A2 n2 c2,.slice A3 n3 c3,.slice A4 n4 c4] 28))
 have HTN:Hid (trmN S z≤400):=Hd (by
 rw[← VS.2]
 have:=cnt_le (cfg S z) (lim z)
 have h1:=h.rp.len
 have:lim z≤z.p.length:=by unfold lim;split <;> omega
 omega)
 have HWH:Hid (∀v,v < trmN S z→Zn z=true):=Hd fun v hv=>RU hv
 have HSP:Hid (∀v d,Zn z=true→((cfg S z).out v=some d∨(cfg S z).inn v=some d)→d < n1):=Hd fun v d hw e=>by(
 have h1:=h.rp.len
 have h2:d < z.p.length:=e.elim (fun e=>(ZeO e).1) fun e=>(ZeN e).1
 omega)
 have HN400:=Hd hn
 obtain⟨tn,htn⟩: ∃x,trmN S z=x:=⟨_,rfl⟩
 rw[htn] at hh hl HTN HWH ⊢
 obtain⟨w1,hw1⟩: ∃w1,w.alloc (.cells #[.slice A1 n1 c1,.slice A2 n2 c2,.slice A3 n3 c3,.slice A4 n4 c4] 28)=w1:=⟨_,rfl⟩
 rw[hw1] at hb0 hz
 have HB0:=Hd hb0
 have HMK:Hid (∀W,(Instr.makeSlice 26 (.int .i64 (tn:Int)) (.int .i64 (tn:Int))).run Tryz.prog W= .ok (.slice (some ⟨W.heap.size,0,none⟩) tn tn) (W.alloc (.cells (Array.replicate tn (Value.slice none 0 0)) 71))):=Hd fun W=>Zlc tn (by have:=HTN.out;omega) W
 have hmk:=HMK.out
 obtain⟨w3,hw3⟩: ∃w3,w1.alloc (.cells (Array.replicate tn (Value.slice none 0 0)) 71)=w3:=⟨_,rfl⟩
 have b3:Below w1.heap.size w1 w3:=hw3▸bA
 have hk3:w3.heap[w1.heap.size]?=some (.cells (Array.replicate tn (Value.slice none 0 0)) 71 (0,0)):=hw3▸heap_alloc_new w1 _
 have HU0:Hid (UnI S z w3 w1.heap.size tn 0 0 none 0 0 (List.replicate tn (Value.slice none 0 0)) w3):=Hd ⟨by rw[hk3,show(List.replicate tn (Value.slice none 0 0)).toArray=Array.replicate tn (Value.slice none 0 0) by simp],List.length_replicate,fun k hk=>absurd hk (Nat.not_lt_zero k),fun h=>by rw[List.getElem?_replicate,if_pos h],World.ownsRow_nil _ _ _ _,fun k h1 h2=>by rw[List.getElem?_replicate,if_pos h2],Kept.refl _ _,Zh hk3⟩
 have b03:=hb0.trans (b3.mono hb0.size)
 have HB3:=Hd b03
 have HSEN:=Hd h
 have HSRT:Hid (∀W,Below w.heap.size w W→Bo.VH W v S):=Hd fun W hW=>hs.keep hW
 have HZ:=Hd (hz.keep b3)
 have HH3:=Hd ((b03.block g1 (Zh hh)).trans hh)
 have HL3:=Hd ((b03.block g2 (Zh hl)).trans hl)
 have HNE:Hid (g1≠w1.heap.size∧g2≠w1.heap.size∧w.heap.size≠w1.heap.size∧w.heap.size≤w1.heap.size):=Hd (by
 have h1:=Zh hh
 have h2:=Zh hl
 have h3:=World.block_lt_of_cell? w1 ⟨w.heap.size,0,none⟩ hz.p0
 replace h3:w.heap.size < w1.heap.size:=h3
 omega)
 unfold senV
 clear hb0 hz hs h hh hl b3 hk3 b03 htn hn HMK
 go_enter Tryz.func33,Tryz.ntmps33
 go_wp2_with fail
 clear hw1 hw3 hmk
 obtain⟨go,hgo⟩: ∃b,w1.heap.size=b:=⟨_,rfl⟩
 rw[hgo] at HU0 HNE
 simp only[hgo]
 clear hgo
 go_loopw [20] (fun v20 wr=> ∃(k:Nat) (us:List Value),v20= .int .i64 (k:Int)∧k≤tn∧UnI S z w3 go tn k 0 none 0 0 us wr) (fun v20 _=>tn - (intOf v20).toNat)
 case atStart=>exact⟨0,_,rfl,Nat.zero_le _,HU0.out⟩
 case round=>(
 clear HU0
 obtain⟨k,us,rfl,hk,hI⟩:=hrel
 by_cases hlt:k < tn
 ·(
 have hw:=HWH.out k hlt
 have HW:=Hd hw
 have HLT:=Hd hlt
 have d0:=(Zb (i:=k) ((hI.b.block g1 (Zh HH3.out) HNE.out.1).trans HH3.out)).trans (Zbb (by rw[outL,VD];exact hlt))
 rw[Zju hw hlt] at d0
 have HI0:=Hd hI
 have hin:(k:Int) < (tn:Int):=by omega
 have hk9:k≤60000:=by have:=HTN.out;omega
 obtain⟨dz,hdz⟩: ∃x,(cfg S z).out k=x:=⟨_,rfl⟩
 rw[hdz] at d0
 have HDZ:=Hd hdz
 obtain⟨dv,hdv⟩: ∃x,optZ dz=x:=⟨_,rfl⟩
 rw[hdv] at d0
 have HDV:=Hd hdv
 clear hk hlt hw hI hdz hdv
 go_wp2_with fail
 clear d0
 obtain⟨wo,rfl⟩: ∃wo,wo=wr:=⟨_,rfl⟩
 go_loopw [27] (fun v27 wq=> ∃(j:Nat) (A:Option Addr) (N c:Nat) (us':List Value),v27= .int .i64 (j:Int)∧j≤tn∧UnI S z w3 go tn k j A N c us' wq) (fun v27 _=>tn - (intOf v27).toNat)
 case atStart=>exact⟨0,none,0,0,us,rfl,Nat.zero_le _,HI0.out⟩
 case round=>(
 clear HI0
 obtain⟨j,A,N,c,us',rfl,hj,hI⟩:=hrel
 have HI:=Hd hI
 by_cases hltj:j < tn
 ·(
 have d1:=(Zb (i:=j) ((hI.b.block g2 (Zh HL3.out) HNE.out.2.1).trans HL3.out)).trans (Zbb (by rw[innL,VD];exact hltj))
 rw[Zjv HW.out hltj] at d1
 have HLTJ:=Hd hltj
 have hinj:(j:Int) < (tn:Int):=by omega
 have hj9:j≤60000:=by have:=HTN.out;omega
 obtain⟨uz,huz⟩: ∃x,(cfg S z).inn j=x:=⟨_,rfl⟩
 rw[huz] at d1
 have HUZ:=Hd huz
 obtain⟨uv,huv⟩: ∃x,optZ uz=x:=⟨_,rfl⟩
 rw[huv] at d1
 have HUV:=Hd huv
 have hN1:N+1≤100000:=by(
 have h1:=Zl Vq (by decide) hI.own
 rw[ZaI] at h1
 have:=HTN.out
 omega)
 have HUND:Hid (undB S z k j=(!decide (k=j) && undM S z dz uz)):=Hd (by rw[Zld,HDZ.out,huz])
 clear hj hI hltj huz huv
 go_wp2_with fail
 clear d1
 by_cases hkj:k=j
 ·(
 have g1':((k:Int) !=(j:Int))=false:=by subst hkj;simp
 have HR:Hid (undB S z k j=false):=Hd (by rw[HUND.out,decide_eq_true hkj];rfl)
 clear hkj
 refine wro [0,1,2,3,4,5,6,7,8,9,10,11,12,13,14,15,16,17,18,19,20,21,22,23,24,25,26,27,28,29,30,31,32,33,34,35,36] [33] 37 (fun _=>True) (by kernel_rfl) (fun _ _ _ _ _ h=>h) trivial ?_
 simp only[steps,sE,sD]
 repeat((first|refine Zf rfl ?_|(refine Zd (v:= ?_) rfl rfl ?_ ?_;rotate_left;(focus(rintro w' -;go_simp;try with_reducible rfl))));simp only[Act.put,sA,sB,sC])
 have HIX:=Hd (HI.out.behind ((Below.refl wr.heap.size wr).drew))
 generalize World.drew _=wd at*
 refine Zg ?_
 have HO:=Hd (ZaF wd false)
 have HAL:=Hd (show Below wd.heap.size wd (wd.alloc (.cells #[.bool false] 4)) from bA)
 have HIA:=Hd (HIX.out.behind HAL.out)
 have y9:wd.cell? ⟨go,k,none⟩=some (.slice A N c):=by(
 rw[Zb HIX.out.g]
 simp only[List.getElem?_toArray]
 exact HIX.out.cur HLT.out)
 have HADD:Hid (∀(w':World) (A':Option Addr) (N' c':Nat),Appended (wd.alloc (.cells #[.bool false] 4)) w' w3.heap.size 4 1 (.slice A N c) (.slice A' N' c') N' ((undI S z k j++ [false]).flatMap enB)→w'.cell? ⟨go,k,none⟩=some (.slice A N c)∧w'.frozen? ⟨go,k,none⟩=false∧UnI S z w3 go tn k (j+1) A' N' c' (us'.set k (.slice A' N' c')) (w'.setCell ⟨go,k,none⟩ (.slice A' N' c'))):=Hd fun w' A' N' c' ha=>by
  exact HIA.out.add HLT.out (by rw[HR.out];exact ha)
 have hsz2:w3.heap.size≤(wd.alloc (.cells #[.bool false] 4)).heap.size:=HIA.out.b.size
 go_wp2_with (at_builtin;refine Zk Vq (by decide) Um Tryz.underlying71 Un rfl (by decide) rfl (.tmp 73) (.tmp 75) rfl w3.heap.size _ N _ rfl HIA.out.own _ _ 1 1 [false] rfl HO.out hN1 hsz2 ?_;intro A' k' c' w' HK HA;have d8:=(HADD.out w' A' k' c' HA.out).1;have q8:=(HADD.out w' A' k' c' HA.out).2.1)
 go_roundw
 case rel=>exact⟨j+1,A',k',c',_,by go_num,HLTJ.out,(HADD.out w' A' k' c' HA.out).2.2⟩
 case measure=>(
 have:=HLTJ.out
 simp[intOf]
 omega))
 ·(
 have g1':((k:Int) !=(j:Int))=true:=by simp;omega
 cases dz with
 |none=>(
 have hd1:dv= -1:=HDV.out.symm
 subst hd1
 have HR:Hid (undB S z k j=false):=Hd (by rw[HUND.out];simp[undM])
 clear hkj
 refine wro [0,1,2,3,4,5,6,7,8,9,10,11,12,13,14,15,16,17,18,19,20,21,22,23,24,25,26,27,28,29,30,31,32,33,34,35,36] [33] 37 (fun _=>True) (by kernel_rfl) (fun _ _ _ _ _ h=>h) trivial ?_
 simp only[steps,sE,sD]
 repeat((first|refine Zf rfl ?_|(refine Zd (v:= ?_) rfl rfl ?_ ?_;rotate_left;(focus(rintro w' -;go_simp;try with_reducible rfl))));simp only[Act.put,sA,sB,sC])
 have HIX:=Hd (HI.out.behind ((Below.refl wr.heap.size wr).drew))
 generalize World.drew _=wd at*
 refine Zg ?_
 have HO:=Hd (ZaF wd false)
 have HAL:=Hd (show Below wd.heap.size wd (wd.alloc (.cells #[.bool false] 4)) from bA)
 have HIA:=Hd (HIX.out.behind HAL.out)
 have y9:wd.cell? ⟨go,k,none⟩=some (.slice A N c):=by(
 rw[Zb HIX.out.g]
 simp only[List.getElem?_toArray]
 exact HIX.out.cur HLT.out)
 have HADD:Hid (∀(w':World) (A':Option Addr) (N' c':Nat),Appended (wd.alloc (.cells #[.bool false] 4)) w' w3.heap.size 4 1 (.slice A N c) (.slice A' N' c') N' ((undI S z k j++ [false]).flatMap enB)→w'.cell? ⟨go,k,none⟩=some (.slice A N c)∧w'.frozen? ⟨go,k,none⟩=false∧UnI S z w3 go tn k (j+1) A' N' c' (us'.set k (.slice A' N' c')) (w'.setCell ⟨go,k,none⟩ (.slice A' N' c'))):=Hd fun w' A' N' c' ha=>by
  exact HIA.out.add HLT.out (by rw[HR.out];exact ha)
 have hsz2:w3.heap.size≤(wd.alloc (.cells #[.bool false] 4)).heap.size:=HIA.out.b.size
 go_wp2_with (at_builtin;refine Zk Vq (by decide) Um Tryz.underlying71 Un rfl (by decide) rfl (.tmp 73) (.tmp 75) rfl w3.heap.size _ N _ rfl HIA.out.own _ _ 1 1 [false] rfl HO.out hN1 hsz2 ?_;intro A' k' c' w' HK HA;have d8:=(HADD.out w' A' k' c' HA.out).1;have q8:=(HADD.out w' A' k' c' HA.out).2.1)
 go_roundw
 case rel=>exact⟨j+1,A',k',c',_,by go_num,HLTJ.out,(HADD.out w' A' k' c' HA.out).2.2⟩
 case measure=>(
 have:=HLTJ.out
 simp[intOf]
 omega))
 |some d=>(
 have hd1:dv=(d:Int):=HDV.out.symm
 subst hd1
 have hd0:decide ((d:Int)≥0)=true:=decide_eq_true (by omega)
 cases uz with
 |none=>(
 have hu1:uv= -1:=HUV.out.symm
 subst hu1
 have HR:Hid (undB S z k j=false):=Hd (by rw[HUND.out];simp[undM])
 clear hkj
 refine wro [0,1,2,3,4,5,6,7,8,9,10,11,12,13,14,15,16,17,18,19,20,21,22,23,24,25,26,27,28,29,30,31,32,33,34,35,36] [33] 37 (fun _=>True) (by kernel_rfl) (fun _ _ _ _ _ h=>h) trivial ?_
 simp only[steps,sE,sD]
 repeat((first|refine Zf rfl ?_|(refine Zd (v:= ?_) rfl rfl ?_ ?_;rotate_left;(focus(rintro w' -;go_simp;try with_reducible rfl))));simp only[Act.put,sA,sB,sC])
 have HIX:=Hd (HI.out.behind ((Below.refl wr.heap.size wr).drew))
 generalize World.drew _=wd at*
 refine Zg ?_
 have HO:=Hd (ZaF wd false)
 have HAL:=Hd (show Below wd.heap.size wd (wd.alloc (.cells #[.bool false] 4)) from bA)
 have HIA:=Hd (HIX.out.behind HAL.out)
 have y9:wd.cell? ⟨go,k,none⟩=some (.slice A N c):=by(
 rw[Zb HIX.out.g]
 simp only[List.getElem?_toArray]
 exact HIX.out.cur HLT.out)
 have HADD:Hid (∀(w':World) (A':Option Addr) (N' c':Nat),Appended (wd.alloc (.cells #[.bool false] 4)) w' w3.heap.size 4 1 (.slice A N c) (.slice A' N' c') N' ((undI S z k j++ [false]).flatMap enB)→w'.cell? ⟨go,k,none⟩=some (.slice A N c)∧w'.frozen? ⟨go,k,none⟩=false∧UnI S z w3 go tn k (j+1) A' N' c' (us'.set k (.slice A' N' c')) (w'.setCell ⟨go,k,none⟩ (.slice A' N' c'))):=Hd fun w' A' N' c' ha=>by
  exact HIA.out.add HLT.out (by rw[HR.out];exact ha)
 have hsz2:w3.heap.size≤(wd.alloc (.cells #[.bool false] 4)).heap.size:=HIA.out.b.size
 go_wp2_with (at_builtin;refine Zk Vq (by decide) Um Tryz.underlying71 Un rfl (by decide) rfl (.tmp 73) (.tmp 75) rfl w3.heap.size _ N _ rfl HIA.out.own _ _ 1 1 [false] rfl HO.out hN1 hsz2 ?_;intro A' k' c' w' HK HA;have d8:=(HADD.out w' A' k' c' HA.out).1;have q8:=(HADD.out w' A' k' c' HA.out).2.1)
 go_roundw
 case rel=>exact⟨j+1,A',k',c',_,by go_num,HLTJ.out,(HADD.out w' A' k' c' HA.out).2.2⟩
 case measure=>(
 have:=HLTJ.out
 simp[intOf]
 omega))
 |some u=>(
 have hu1:uv=(u:Int):=HUV.out.symm
 subst hu1
 have hu0:decide ((u:Int)≥0)=true:=decide_eq_true (by omega)
 have hdn:=HSP.out k d HW.out (.inl HDZ.out)
 have hun:=HSP.out j u HW.out (.inr HUZ.out)
 obtain⟨a1,a2,a3,a4,a5⟩:=ZE.1 HW.out
 have hl1:=HSEN.out.rp.len
 have hl2:=HSEN.out.rl.len
 have hl3:=HSEN.out.rh.len
 have hl4:=HSEN.out.rb.len
 obtain⟨b4,o4,bd,od,yd,hA4,rd,cd⟩:=Zdx HSEN.out HW.out (i:=d) (by omega)
 obtain⟨b3,o3,hA3,xd,fd⟩:=ZG HSEN.out.rh HSEN.out.fh (i:=d) (by omega)
 obtain⟨b2,o2,hA2,xu,fu⟩:=ZG HSEN.out.rl HSEN.out.fl (i:=u) (by omega)
 have hvd:hg z d=_:=Y1 (by omega)
 have hvu:lw z u=_:=KA (by omega)
 rw[← hvd] at xd fd
 rw[← hvu] at xu fu
 have z1:=HZ.out.p1
 have z2:=HZ.out.p2
 have z3:=HZ.out.p3
 rw[hA2] at z1
 rw[hA3] at z2
 rw[hA4] at z3
 have hdn4:(d:Int) < (n4:Int):=by omega
 have hdn3:(d:Int) < (n3:Int):=by omega
 have hun1:(u:Int) < (n1:Int):=by omega
 have hun2:(u:Int) < (n2:Int):=by omega
 have hd9:d≤60000:=by have:=HN400.out;omega
 have hu9:u≤60000:=by have:=HN400.out;omega
 have hru:=cd u (by omega)
 obtain⟨x,hx⟩: ∃x,bb z d u=x:=⟨_,rfl⟩
 rw[hx] at hru
 have HX:=Hd hx
 have KC:Hid (∀W,Kept (· =go) w3 W→ ∀p q,w.cell? p=some q→W.cell? p=some q):=Hd fun W hW p q hp=>by(
 have h1:=World.block_lt_of_cell? w p hp
 have h3:=Za hp HB3.out
 exact(hW.cell (p:=p) (World.block_lt_of_cell? w3 p h3) (by have:=HNE.out.2.2.2;omega)).trans h3)
 have KZ:Hid (∀W,Kept (· =go) w3 W→ ∀i q,w3.cell? ⟨w.heap.size,i,none⟩=some q→W.cell? ⟨w.heap.size,i,none⟩=some q):=Hd fun W hW i q hp=>(hW.cell (p:=⟨w.heap.size,i,none⟩) (World.block_lt_of_cell? w3 ⟨w.heap.size,i,none⟩ hp) HNE.out.2.2.1).trans hp
 have HUR:Hid (∀W,Kept (· =go) w3 W→UnR W w.heap.size d u n2 c2 n3 c3 b4 o4 n4 c4 b3 o3 b2 o2 bd od yd n1 (hg z d) (lw z u) x):=Hd fun W hW=>
  ⟨KZ.out W hW _ _ z1,KZ.out W hW _ _ z2,KZ.out W hW _ _ z3,KC.out W hW _ _ rd,KC.out W hW _ _ hru,KC.out W hW _ _ xd,KC.out W hW _ _ xu⟩
 obtain⟨r,hr⟩: ∃r,S.below (hg z d) (lw z u)=r:=⟨_,rfl⟩
 have HPB:Hid (∀W,Below w.heap.size w W→Calls Tryz.prog 61 #[v,.int .u64 (hg z d:Int),.int .u64 (lw z u:Int)] W fun e w'=>e= .returned (.bool r)∧Below W.heap.size W w'):=Hd fun W hW=>U0 v S _ _ W (HSRT.out W hW) fd fu r hr
 have HR:Hid (undB S z k j=(x && !r)):=Hd (by rw[HUND.out,decide_eq_false hkj];simp[undM,hx,hr])
 have HBK:Hid (∀W,Kept (· =go) w3 W→Below w.heap.size w W):=Hd fun W hW=>HB3.out.trans (hW.below HB3.out.size fun b e=>by have:=HNE.out.2.2.2;omega)
 generalize hg z d=hd' at*
 generalize lw z u=lu' at*
 clear hdn hun a1 a2 a3 a4 a5 hl1 hl2 hl3 hl4 rd cd xd xu z1 z2 z3 hru hvd hvu hA4 hA3 hA2 fd fu hx hr hkj
 have hur:=HUR.out wr HI.out.b
 refine wro [0,1,2,3,4,5,6,7,8,9,10,11,12,13,14,15,16,17,18,19,20,21,22,23,24,25,26,27,28,29,30,31,32,33,34,35,36] [33] 37 (fun W=>UnR W w.heap.size d u n2 c2 n3 c3 b4 o4 n4 c4 b3 o3 b2 o2 bd od yd n1 hd' lu' x) (by kernel_rfl) (fun _ _ _ _ _ h=>h) ⟨hur.a1,hur.a2,hur.a3,hur.rd,hur.ru,hur.xd,hur.xu⟩ ?_
 simp only[steps,sE,sD]
 clear hur
 cases x with
 |false=>(
 repeat((first|refine Zf rfl ?_|(refine Zd (v:= ?_) rfl rfl ?_ ?_;rotate_left;(focus(rintro w' ⟨x0,x1,x2,x3,x4,x5,x6⟩;go_simp;try with_reducible rfl))));simp only[Act.put,sA,sB,sC])
 have HIX:=Hd (HI.out.behind ((Below.refl wr.heap.size wr).drew))
 generalize World.drew _=wd at*
 refine Zg ?_
 have HO:=Hd (ZaF wd false)
 have HAL:=Hd (show Below wd.heap.size wd (wd.alloc (.cells #[.bool false] 4)) from bA)
 have HIA:=Hd (HIX.out.behind HAL.out)
 have y9:wd.cell? ⟨go,k,none⟩=some (.slice A N c):=by(
 rw[Zb HIX.out.g]
 simp only[List.getElem?_toArray]
 exact HIX.out.cur HLT.out)
 have HADD:Hid (∀(w':World) (A':Option Addr) (N' c':Nat),Appended (wd.alloc (.cells #[.bool false] 4)) w' w3.heap.size 4 1 (.slice A N c) (.slice A' N' c') N' ((undI S z k j++ [false]).flatMap enB)→w'.cell? ⟨go,k,none⟩=some (.slice A N c)∧w'.frozen? ⟨go,k,none⟩=false∧UnI S z w3 go tn k (j+1) A' N' c' (us'.set k (.slice A' N' c')) (w'.setCell ⟨go,k,none⟩ (.slice A' N' c'))):=Hd fun w' A' N' c' ha=>by
  exact HIA.out.add HLT.out (by rw[HR.out];exact ha)
 have hsz2:w3.heap.size≤(wd.alloc (.cells #[.bool false] 4)).heap.size:=HIA.out.b.size
 go_wp2_with (at_builtin;refine Zk Vq (by decide) Um Tryz.underlying71 Un rfl (by decide) rfl (.tmp 73) (.tmp 75) rfl w3.heap.size _ N _ rfl HIA.out.own _ _ 1 1 [false] rfl HO.out hN1 hsz2 ?_;intro A' k' c' w' HK HA;have d8:=(HADD.out w' A' k' c' HA.out).1;have q8:=(HADD.out w' A' k' c' HA.out).2.1)
 go_roundw
 case rel=>exact⟨j+1,A',k',c',_,by go_num,HLTJ.out,(HADD.out w' A' k' c' HA.out).2.2⟩
 case measure=>(
 have:=HLTJ.out
 simp[intOf]
 omega))
 |true=>(
 repeat((first|refine Zf rfl ?_|(refine Zd (v:= ?_) rfl rfl ?_ ?_;rotate_left;(focus(rintro w' ⟨x0,x1,x2,x3,x4,x5,x6⟩;go_simp;try with_reducible rfl))));simp only[Act.put,sA,sB,sC])
 have HID:=Hd (HI.out.behind ((Below.refl wr.heap.size wr).drew))
 generalize World.drew _=wd at*
 refine Ze rfl rfl (fun K hK=> ?_)
 go_simp
 refine(HPB.out wd (HBK.out wd HID.out.b)).mono ?_
 rintro e w5 ⟨rfl,hv⟩
 have HIX:=Hd (HID.out.behind hv)
 refine hK.out _ _ (fun _=>HUR.out w5 HIX.out.b) ?_
 clear hK K hv
 try simp only[Act.put,sA,sB,sC]
 cases r with
 |true=>(
 repeat((first|refine Zf rfl ?_|(refine Zd (v:= ?_) rfl rfl ?_ ?_;rotate_left;(focus(rintro w' ⟨x0,x1,x2,x3,x4,x5,x6⟩;go_simp;try with_reducible rfl))));simp only[Act.put,sA,sB,sC])
 refine Zg ?_
 have HO:=Hd (ZaF w5 false)
 have HAL:=Hd (show Below w5.heap.size w5 (w5.alloc (.cells #[.bool false] 4)) from bA)
 have HIA:=Hd (HIX.out.behind HAL.out)
 have y9:w5.cell? ⟨go,k,none⟩=some (.slice A N c):=by(
 rw[Zb HIX.out.g]
 simp only[List.getElem?_toArray]
 exact HIX.out.cur HLT.out)
 have HADD:Hid (∀(w':World) (A':Option Addr) (N' c':Nat),Appended (w5.alloc (.cells #[.bool false] 4)) w' w3.heap.size 4 1 (.slice A N c) (.slice A' N' c') N' ((undI S z k j++ [false]).flatMap enB)→w'.cell? ⟨go,k,none⟩=some (.slice A N c)∧w'.frozen? ⟨go,k,none⟩=false∧UnI S z w3 go tn k (j+1) A' N' c' (us'.set k (.slice A' N' c')) (w'.setCell ⟨go,k,none⟩ (.slice A' N' c'))):=Hd fun w' A' N' c' ha=>by
  exact HIA.out.add HLT.out (by rw[HR.out];exact ha)
 have hsz2:w3.heap.size≤(w5.alloc (.cells #[.bool false] 4)).heap.size:=HIA.out.b.size
 go_wp2_with (at_builtin;refine Zk Vq (by decide) Um Tryz.underlying71 Un rfl (by decide) rfl (.tmp 73) (.tmp 75) rfl w3.heap.size _ N _ rfl HIA.out.own _ _ 1 1 [false] rfl HO.out hN1 hsz2 ?_;intro A' k' c' w' HK HA;have d8:=(HADD.out w' A' k' c' HA.out).1;have q8:=(HADD.out w' A' k' c' HA.out).2.1)
 go_roundw
 case rel=>exact⟨j+1,A',k',c',_,by go_num,HLTJ.out,(HADD.out w' A' k' c' HA.out).2.2⟩
 case measure=>(
 have:=HLTJ.out
 simp[intOf]
 omega))
 |false=>(
 repeat((first|refine Zf rfl ?_|(refine Zd (v:= ?_) rfl rfl ?_ ?_;rotate_left;(focus(rintro w' ⟨x0,x1,x2,x3,x4,x5,x6⟩;go_simp;try with_reducible rfl))));simp only[Act.put,sA,sB,sC])
 refine Zg ?_
 have HO:=Hd (ZaF w5 true)
 have HAL:=Hd (show Below w5.heap.size w5 (w5.alloc (.cells #[.bool true] 4)) from bA)
 have HIA:=Hd (HIX.out.behind HAL.out)
 have y9:w5.cell? ⟨go,k,none⟩=some (.slice A N c):=by(
 rw[Zb HIX.out.g]
 simp only[List.getElem?_toArray]
 exact HIX.out.cur HLT.out)
 have HADD:Hid (∀(w':World) (A':Option Addr) (N' c':Nat),Appended (w5.alloc (.cells #[.bool true] 4)) w' w3.heap.size 4 1 (.slice A N c) (.slice A' N' c') N' ((undI S z k j++ [true]).flatMap enB)→w'.cell? ⟨go,k,none⟩=some (.slice A N c)∧w'.frozen? ⟨go,k,none⟩=false∧UnI S z w3 go tn k (j+1) A' N' c' (us'.set k (.slice A' N' c')) (w'.setCell ⟨go,k,none⟩ (.slice A' N' c'))):=Hd fun w' A' N' c' ha=>by
  exact HIA.out.add HLT.out (by rw[HR.out];exact ha)
 have hsz2:w3.heap.size≤(w5.alloc (.cells #[.bool true] 4)).heap.size:=HIA.out.b.size
 go_wp2_with (at_builtin;refine Zk Vq (by decide) Um Tryz.underlying71 Un rfl (by decide) rfl (.tmp 73) (.tmp 75) rfl w3.heap.size _ N _ rfl HIA.out.own _ _ 1 1 [true] rfl HO.out hN1 hsz2 ?_;intro A' k' c' w' HK HA;have d8:=(HADD.out w' A' k' c' HA.out).1;have q8:=(HADD.out w' A' k' c' HA.out).2.1)
 go_roundw
 case rel=>exact⟨j+1,A',k',c',_,by go_num,HLTJ.out,(HADD.out w' A' k' c' HA.out).2.2⟩
 case measure=>(
 have:=HLTJ.out
 simp[intOf]
 omega)))))))
 ·(
 obtain rfl:tn=j:=by omega
 have HN:=Hd (hI.next HLT.out)
 clear hj hI hltj HI
 go_wp2_with fail
 go_roundw
 case rel=>exact⟨k+1,us',by go_num,HLT.out,HN.out⟩
 case measure=>(
 have:=HLT.out
 simp[intOf]
 omega))))
 ·(
 obtain rfl:tn=k:=by omega
 have HI:=Hd hI
 have HBW:Hid (Below w.heap.size w wr):=Hd (HB3.out.trans (hI.b.below HB3.out.size fun b e=>by have:=HNE.out.2.2.2;omega))
 clear hlt hk hI
 go_wp2_with fail
 go_ret
 exact⟨go,us,w3,rfl,HI.out,HBW.out⟩))
end Go.Proofs.YtmejhedegmjboaaGreat.I
namespace Go.Proofs.YtmejhedegmjboaaGreat.I
open Go.RowKit PaC
def Zeq (S:Bo.Sr)(z:Sen)(go tn:Nat)(W:World):Prop:=
 ∀k < tn,∃b c,W.cell? ⟨go,k,none⟩=some (.slice (some ⟨b,0,none⟩) tn c)∧ ∀j < tn,W.cell? ⟨b,j,none⟩=some (.bool (undB S z k j))
theorem UnI.rows {S:Bo.Sr}{z:Sen}{w3:World}{go tn:Nat}{us:List Value}{W:World}(h:UnI S z w3 go tn tn 0 none 0 0 us W):Zeq S z go tn W:=fun k hk=>by
 obtain⟨b,c,e1,-,-,-,e5⟩:=h.done k hk
 refine⟨b,c,?_,e5⟩
 rw[Zb h.g]
 simp only[List.getElem?_toArray]
 exact e1
theorem Zeq.keep {S:Bo.Sr}{z:Sen}{go tn:Nat}{W W':World}(h:Zeq S z go tn W)(hb:Below W.heap.size W W'):Zeq S z go tn W':=fun k hk=>by
 obtain⟨b,c,e1,e2⟩:=h k hk
 exact⟨b,c,Za e1 hb,fun j hj=>Za (e2 j hj) hb⟩
noncomputable def btwB (S:Bo.Sr) (z:Sen) (tn v w:Nat):Bool:=(List.range tn).any fun t=>undB S z v t && undB S z t w
theorem Zk4 {S:Bo.Sr}{z:Sen}{tn v w t:Nat}(h:t < tn)(e:(undB S z v t && undB S z t w)=true):btwB S z tn v w=true:=by
 unfold btwB
 rw[List.any_eq_true]
 exact⟨t,List.mem_range.2 h,e⟩
theorem Zmf {S:Bo.Sr}{z:Sen}{tn v w:Nat}(h: ∀t < tn,(undB S z v t && undB S z t w)=false):btwB S z tn v w=false:=by
 unfold btwB
 rw[List.any_eq_false]
 intro t ht
 rw[h t (List.mem_range.1 ht)]
 simp
theorem ZgH (S:Bo.Sr)(z:Sen)(m v w:Nat):covB S z m v w=(undB S z v w && !btwB S z m v w):=rfl
theorem Zck (S:Bo.Sr)(z:Sen)(go tn v u:Nat)(w:World)(h:Zeq S z go tn w)(hv:v < tn)(hu:u < tn)(ht:tn≤60000)(res:Bool)(hres:btwB S z tn v u=res):
  Calls Tryz.prog 34 #[.slice (some ⟨go,0,none⟩) tn tn,.int .i64 (v:Int),.int .i64 (u:Int)] w fun e w'=>e= .returned (.bool res)∧w=w':=by
 obtain⟨b,c,e1,e2⟩:=h v hv
 have HH:=Hd h
 have HE:=Hd e2
 have HT:=Hd ht
 have HU:=Hd hu
 have HR:=Hd hres
 have hvn:(v:Int) < (tn:Int):=by omega
 have hun:(u:Int) < (tn:Int):=by omega
 have hv9:v≤60000:=by omega
 have hu9:u≤60000:=by omega
 clear h hv hu ht e2 hres
 go_enter Tryz.func34,Tryz.ntmps34
 go_wp2
 clear e1
 go_loopw [14] (fun v14 wr=> ∃i:Nat,v14= .int .i64 (i:Int)∧i≤tn∧(∀t < i,(undB S z v t && undB S z t u)=false)∧w=wr) (fun v14 _=>tn - (intOf v14).toNat)
 case atStart=>exact⟨0,rfl,Nat.zero_le _,fun t h=>absurd h (Nat.not_lt_zero t),rfl⟩
 case round=>(
 obtain⟨i,rfl,hi,hall,rfl⟩:=hrel
 by_cases hlt:i < tn
 ·(
 have m0:=HE.out i hlt
 obtain⟨b2,c2,r1,r2⟩:=HH.out i hlt
 have m1:=r2 u HU.out
 obtain⟨x,hx⟩: ∃x,undB S z v i=x:=⟨_,rfl⟩
 obtain⟨y,hy⟩: ∃y,undB S z i u=y:=⟨_,rfl⟩
 rw[hx] at m0
 rw[hy] at m1
 have HXY:Hid ((undB S z v i && undB S z i u)=(x && y)):=Hd (by rw[hx,hy])
 have HALL:=Hd hall
 have HLT:=Hd hlt
 have hin:(i:Int) < (tn:Int):=by omega
 have hi9:i≤60000:=by have:=HT.out;omega
 have HNX:Hid ((x && y)=false→ ∀t < i+1,(undB S z v t && undB S z t u)=false):=Hd fun e t ht=>by(
 by_cases e':t=i
 ·subst e'
  rw[HXY.out]
  exact e
 ·exact HALL.out t (by omega))
 clear hi hall hlt hx hy r2
 cases x with
 |false=>(
 have HN:=Hd (HNX.out rfl)
 go_wp2_with fail
 go_roundw
 case rel=>exact⟨i+1,by go_num,HLT.out,HN.out,trivial⟩
 case measure=>(
 have:=HLT.out
 simp[intOf]
 omega))
 |true=>(
 cases y with
 |false=>(
 have HN:=Hd (HNX.out rfl)
 go_wp2_with fail
 go_roundw
 case rel=>exact⟨i+1,by go_num,HLT.out,HN.out,trivial⟩
 case measure=>(
 have:=HLT.out
 simp[intOf]
 omega))
 |true=>(
 obtain rfl:true=res:=(Zk4 HLT.out HXY.out).symm.trans HR.out
 go_wp2_with fail
 go_ret
 exact⟨rfl,rfl⟩)))
 ·(
 obtain rfl:tn=i:=by omega
 obtain rfl:false=res:=(Zmf hall).symm.trans HR.out
 clear hi hall hlt
 go_wp2_with fail
 go_ret
 exact⟨rfl,rfl⟩))
theorem Zdr (a b:Tm):(a=b)∨(a.1=true∧b.1=false)∨(a.1=false∧b.1=true)∨(a.1=b.1∧a.2≠b.2):=by
 obtain⟨a1,a2⟩:=a
 obtain⟨b1,b2⟩:=b
 by_cases e:a2=b2
 ·subst e
  cases a1 <;> cases b1 <;> simp
 ·cases a1 <;> cases b1 <;> simp[e]
theorem Zer (A B:Option Addr)(n c n2 c2:Nat)(l l2:List Tm)(w:World)(h:Rs tmc 2 w w.heap.size A n c l)(h2:Rs tmc 2 w w.heap.size B n2 c2 l2)(hn:n≤60000)(res:Bool)(hres:decide (l=l2)=res):
  Calls Tryz.prog 30 #[.slice A n c,.slice B n2 c2] w fun e w'=>e= .returned (.bool res)∧Below w.heap.size w w':=by
 have HL:=Hd h.len
 have HL2:=Hd h2.len
 by_cases hne:n=n2
 case neg=>(
 have g1:((n:Int) !=(n2:Int))=true:=by simp;omega
 obtain rfl:false=res:=by(
 rw[← hres]
 symm
 apply decide_eq_false
 intro e
 have:=HL.out
 have:=HL2.out
 subst e
 omega)
 clear h h2 hn hres hne
 go_enter Tryz.func30,Tryz.ntmps30
 go_wp2
 go_ret
 exact⟨rfl,Below.refl _ _⟩)
 subst hne
 have g1:((n:Int) !=(n:Int))=false:=by simp
 have HH:=Hd h
 have HH2:=Hd h2
 have HN:=Hd hn
 have HR:=Hd hres
 clear h h2 hn hres
 go_enter Tryz.func30,Tryz.ntmps30
 go_wp2
 clear g1
 go_loopw [13] (fun v13 wr=> ∃i:Nat,v13= .int .i64 (i:Int)∧i≤n∧(∀j (q:j < i) (q1:j < l.length) (q2:j < l2.length),l[j]=l2[j])∧Below w.heap.size w wr) (fun v13 _=>n - (intOf v13).toNat)
 case atStart=>exact⟨0,rfl,Nat.zero_le _,fun j q=>absurd q (Nat.not_lt_zero j),Below.refl _ _⟩
 case round=>(
 obtain⟨i,rfl,hi,hall,hb⟩:=hrel
 by_cases hlt:i < n
 ·(
 have hil:i < l.length:=by have:=HL.out;omega
 have hil2:i < l2.length:=by have:=HL2.out;omega
 obtain⟨b1,o1,rfl,-,u0,u1⟩:=Ue (HH.out.at_size lR hb) hil
 obtain⟨b2,o2,rfl,-,v0,v1⟩:=Ue (HH2.out.at_size lR hb) hil2
 have HIL:=Hd (And.intro hil hil2)
 obtain⟨t1,e1⟩: ∃t,l[i]=t:=⟨_,rfl⟩
 obtain⟨t2,e2⟩: ∃t,l2[i]=t:=⟨_,rfl⟩
 rw[e1] at u0 u1
 rw[e2] at v0 v1
 have HE:Hid (l[i]=t1∧l2[i]=t2):=Hd ⟨e1,e2⟩
 have HALL:=Hd hall
 have HLT:=Hd hlt
 have HB:=Hd hb
 have hin:(i:Int) < (n:Int):=by omega
 have hi9:i≤60000:=by have:=HN.out;omega
 have HNO:Hid (t1≠t2→res=false):=Hd fun e=>by(
 rw[← HR.out]
 apply decide_eq_false
 intro e'
 subst e'
 exact e (HE.out.1.symm.trans HE.out.2))
 have HYES:Hid (t1=t2→ ∀j (q:j < i+1) (q1:j < l.length) (q2:j < l2.length),l[j]=l2[j]):=Hd fun e j q q1 q2=>by(
 by_cases e':j=i
 ·subst e'
  rw[HE.out.1,HE.out.2,e]
 ·exact HALL.out j (by omega) q1 q2)
 clear hi hall hlt e1 e2 hb
 obtain⟨a,x⟩:=t1
 obtain⟨b,y⟩:=t2
 simp only at u0 u1 v0 v1
 rcases Zdr (a,x) (b,y) with e|⟨e,e'⟩|⟨e,e'⟩|⟨e,e'⟩
 ·(
 simp only[Prod.mk.injEq] at e
 obtain⟨rfl,rfl⟩:=e
 have HN:=Hd (HYES.out rfl)
 have gx:(x==x)=true:=by simp
 have ga:(a==a)=true:=by simp
 go_wp2_with fail
 refine wro [0,1,2,3,4,5,6,7,8] [] 9 (fun W=>W.cell? ⟨b1,o1+i*2,none⟩=some (.bool a)∧W.cell? ⟨b1,o1+i*2+1,none⟩=some (.int .u64 x)∧W.cell? ⟨b2,o2+i*2,none⟩=some (.bool a)∧W.cell? ⟨b2,o2+i*2+1,none⟩=some (.int .u64 x)) (by kernel_rfl) (fun _ _ _ _ _ h=>h) ⟨u0,u1,v0,v1⟩ ?_
 simp only[steps,sE,sD]
 repeat((first|refine Zf rfl ?_|(refine Zd (v:= ?_) rfl rfl ?_ ?_;rotate_left;(focus(rintro w' ⟨x0,x1,x2,x3⟩;go_simp;try with_reducible rfl))));simp only[Act.put,sA,sB,sC])
 have HBD:=Hd (HB.out.trans ((Below.refl wr.heap.size wr).drew.mono HB.out.size))
 clear u0 u1 v0 v1 HB
 generalize World.drew _=wd at*
 refine Zg ?_
 go_wp2_with fail
 go_roundw
 case rel=>exact⟨i+1,by go_num,HLT.out,HN.out,HBD.out⟩
 case measure=>(
 have:=HLT.out
 simp[intOf]
 omega))
 ·(
 simp only at e e'
 subst e e'
 obtain rfl:false=res:=(HNO.out (by simp)).symm
 go_wp2_with fail
 refine wro [0,1,2,3,4,5,6,7,8] [] 9 (fun W=>W.cell? ⟨b1,o1+i*2,none⟩=some (.bool true)∧W.cell? ⟨b1,o1+i*2+1,none⟩=some (.int .u64 x)∧W.cell? ⟨b2,o2+i*2,none⟩=some (.bool false)∧W.cell? ⟨b2,o2+i*2+1,none⟩=some (.int .u64 y)) (by kernel_rfl) (fun _ _ _ _ _ h=>h) ⟨u0,u1,v0,v1⟩ ?_
 simp only[steps,sE,sD]
 repeat((first|refine Zf rfl ?_|(refine Zd (v:= ?_) rfl rfl ?_ ?_;rotate_left;(focus(rintro w' ⟨x0,x1,x2,x3⟩;go_simp;try with_reducible rfl))));simp only[Act.put,sA,sB,sC])
 have HBD:=Hd (HB.out.trans ((Below.refl wr.heap.size wr).drew.mono HB.out.size))
 clear u0 u1 v0 v1 HB
 generalize World.drew _=wd at*
 refine Zg ?_
 go_wp2_with fail
 go_ret
 exact⟨rfl,HBD.out⟩)
 ·(
 simp only at e e'
 subst e e'
 obtain rfl:false=res:=(HNO.out (by simp)).symm
 go_wp2_with fail
 refine wro [0,1,2,3,4,5,6,7,8] [] 9 (fun W=>W.cell? ⟨b1,o1+i*2,none⟩=some (.bool false)∧W.cell? ⟨b1,o1+i*2+1,none⟩=some (.int .u64 x)∧W.cell? ⟨b2,o2+i*2,none⟩=some (.bool true)∧W.cell? ⟨b2,o2+i*2+1,none⟩=some (.int .u64 y)) (by kernel_rfl) (fun _ _ _ _ _ h=>h) ⟨u0,u1,v0,v1⟩ ?_
 simp only[steps,sE,sD]
 repeat((first|refine Zf rfl ?_|(refine Zd (v:= ?_) rfl rfl ?_ ?_;rotate_left;(focus(rintro w' ⟨x0,x1,x2,x3⟩;go_simp;try with_reducible rfl))));simp only[Act.put,sA,sB,sC])
 have HBD:=Hd (HB.out.trans ((Below.refl wr.heap.size wr).drew.mono HB.out.size))
 clear u0 u1 v0 v1 HB
 generalize World.drew _=wd at*
 refine Zg ?_
 go_wp2_with fail
 go_ret
 exact⟨rfl,HBD.out⟩)
 ·(
 simp only at e e'
 subst e
 obtain rfl:false=res:=(HNO.out (by simp[e'])).symm
 have gx:(x==y)=false:=by simpa using e'
 have ga:(a==a)=true:=by simp
 clear e'
 go_wp2_with fail
 refine wro [0,1,2,3,4,5,6,7,8] [] 9 (fun W=>W.cell? ⟨b1,o1+i*2,none⟩=some (.bool a)∧W.cell? ⟨b1,o1+i*2+1,none⟩=some (.int .u64 x)∧W.cell? ⟨b2,o2+i*2,none⟩=some (.bool a)∧W.cell? ⟨b2,o2+i*2+1,none⟩=some (.int .u64 y)) (by kernel_rfl) (fun _ _ _ _ _ h=>h) ⟨u0,u1,v0,v1⟩ ?_
 simp only[steps,sE,sD]
 repeat((first|refine Zf rfl ?_|(refine Zd (v:= ?_) rfl rfl ?_ ?_;rotate_left;(focus(rintro w' ⟨x0,x1,x2,x3⟩;go_simp;try with_reducible rfl))));simp only[Act.put,sA,sB,sC])
 have HBD:=Hd (HB.out.trans ((Below.refl wr.heap.size wr).drew.mono HB.out.size))
 clear u0 u1 v0 v1 HB
 generalize World.drew _=wd at*
 refine Zg ?_
 go_wp2_with fail
 go_ret
 exact⟨rfl,HBD.out⟩))
 ·(
 obtain rfl:n=i:=by omega
 obtain rfl:true=res:=by(
 rw[← HR.out]
 symm
 apply decide_eq_true
 exact List.ext_getElem (by have:=HL.out;have:=HL2.out;omega) fun j q1 q2=>hall j (by have:=HL.out;omega) q1 q2)
 have HB:=Hd hb
 clear hi hall hlt hb
 go_wp2_with fail
 go_ret
 exact⟨rfl,HB.out⟩))
end Go.Proofs.YtmejhedegmjboaaGreat.I
