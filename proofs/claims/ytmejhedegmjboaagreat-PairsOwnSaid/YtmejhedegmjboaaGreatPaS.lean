/- What Of of pairs tells: of each spot its term. Condition: the sense can be read. -/
/- Seats, ends: where variables sit. Condition: the sense can be read. -/
import Derived.Test.YtmejhedegmjboaaGreatPaL
namespace Go.Proofs.YtmejhedegmjboaaGreat.I
open Go.RowKit PaC
def enI (x:Nat):Value:= .int .i64 (x:Int)
theorem enI_inj (x y:Nat)(h:enI x=enI y):x=y:=by
 simp[enI] at h
 omega
theorem lawI:Maps.Keyed Tryz.prog 3:=Maps.int_keyed Tryz.underlying3
theorem keyI {x:Nat}(h:x≤1000000): ∃l,keyOf Tryz.prog 3 (enI x)=some l:=⟨.int .i64 (x:Int),(keyOf_int Tryz.underlying3 _).trans (by simp[mapKey,enI,Tryz.underlying3];exact wf_i64 h)⟩
noncomputable def nmF (S:Bo.Sr) (z:Sen) (i:Nat):Nat→Option Nat:=fun h=>((List.range i).find? fun k=> !fixB S z k && decide ((cfg S z).home k=h)).map (cfg S z).num
section
variable {S:Bo.Sr} {z:Sen}
theorem nmF_zero:nmF S z 0=fun _=>none:=rfl
theorem nmF_fixed {i:Nat}(h:fixB S z i=true):nmF S z (i+1)=nmF S z i∧(cfg S z).cnt (i+1)=(cfg S z).cnt i:=by
 refine⟨?_,?_⟩
 ·funext x
  unfold nmF
  rw[List.range_succ,List.find?_append]
  simp[h]
 ·rw[cnt_next]
  have:(cfg S z).lead i=false:=by
   cases e:(cfg S z).lead i with
   |false=>rfl
   |true=>
    have:=(lead_iff.1 e).1
    have h':(cfg S z).fx i=true:=h
    rw[h'] at this
    cases this
  rw[this]
  rfl
theorem nmF_some {i v:Nat}(hf:fixB S z i=false)(h:nmF S z i ((cfg S z).home i)=some v):v=(cfg S z).num i∧nmF S z (i+1)=nmF S z i∧(cfg S z).cnt (i+1)=(cfg S z).cnt i:=by
 unfold nmF at h
 cases e:(List.range i).find? fun k=> !fixB S z k && decide ((cfg S z).home k=(cfg S z).home i) with
 |none=>rw[e] at h;cases h
 |some k=>
  rw[e] at h
  have h1:=List.find?_some e
  have h2:=List.mem_of_find?_eq_some e
  simp only[Bool.and_eq_true,Bool.not_eq_true',decide_eq_true_eq] at h1
  have hk:k < i:=List.mem_range.1 h2
  have hn:(cfg S z).num k=(cfg S z).num i:=(num_same (c:=cfg S z) h1.1 hf).2 h1.2
  refine⟨by rw[← hn];exact(Option.some.inj h).symm,?_,?_⟩
  ·funext x
   unfold nmF
   rw[List.range_succ,List.find?_append]
   cases e2:(List.range i).find? fun k=> !fixB S z k && decide ((cfg S z).home k=x) with
   |some q=>rfl
   |none=>
    have:([i]:List Nat).find? (fun k=> !fixB S z k && decide ((cfg S z).home k=x))=none:=by
     rw[List.find?_eq_none]
     intro q hq
     rw[List.mem_singleton] at hq
     subst hq
     intro h3
     simp only[Bool.and_eq_true,Bool.not_eq_true',decide_eq_true_eq] at h3
     have:=List.find?_eq_none.1 e2 k h2
     rw[h1.1,h1.2,h3.2] at this
     simp at this
    rw[this]
    rfl
  ·rw[cnt_next]
   have:(cfg S z).lead i=false:=by
    cases e3:(cfg S z).lead i with
    |false=>rfl
    |true=>exact absurd h1.2 ((lead_iff.1 e3).2 k hk h1.1)
   rw[this]
   rfl
theorem nmF_none {i:Nat}(hf:fixB S z i=false)(h:nmF S z i ((cfg S z).home i)=none):(cfg S z).num i=(cfg S z).cnt i∧nmF S z (i+1)=putF (nmF S z i) ((cfg S z).home i) ((cfg S z).cnt i)∧(cfg S z).cnt (i+1)=(cfg S z).cnt i+1:=by
 have hl:(cfg S z).lead i=true:=lead_iff.2 ⟨hf,fun k hk h1 h2=>by
  unfold nmF at h
  rw[Option.map_eq_none_iff] at h
  have:=List.find?_eq_none.1 h k (List.mem_range.2 hk)
  have h1:fixB S z k=false:=h1
  rw[h1,h2] at this
  simp at this⟩
 have hn:(cfg S z).num i=(cfg S z).cnt i:=num_new hl
 refine⟨hn,?_,by rw[cnt_next,if_pos hl]⟩
 funext x
 unfold nmF putF
 rw[List.range_succ,List.find?_append]
 by_cases e:x=(cfg S z).home i
 ·subst e
  unfold nmF at h
  rw[Option.map_eq_none_iff] at h
  rw[h,if_pos rfl]
  simp[hf,hn]
 ·rw[if_neg e]
  have:([i]:List Nat).find? (fun k=> !fixB S z k && decide ((cfg S z).home k=x))=none:=by
   rw[List.find?_eq_none]
   intro q hq
   rw[List.mem_singleton] at hq
   subst hq
   simp[hf,Ne.symm e]
  rw[this,Option.or_none]
noncomputable def trmI (S:Bo.Sr) (z:Sen) (i:Nat):List Tm:=(List.range i).map (trm S z)
theorem trmI_next (S:Bo.Sr)(z:Sen)(i:Nat):trmI S z (i+1)=trmI S z i++ [trm S z i]:=by
 unfold trmI
 rw[List.range_succ,List.map_append]
 rfl
theorem trmI_len (S:Bo.Sr)(z:Sen)(i:Nat):(trmI S z i).length=i:=by simp[trmI]
theorem trm_end:trmI S z (lim z)=trmL S z∧(cfg S z).cnt (lim z)=trmN S z:=by
 unfold trmI trmL trmN lim
 split
 ·exact⟨rfl,rfl⟩
 ·exact⟨rfl,rfl⟩
theorem cnt_le (c:Cfg)(i:Nat):c.cnt i≤i:=by
 unfold Cfg.cnt
 have:=List.length_filter_le c.lead (List.range i)
 rw[List.length_range] at this
 exact this
theorem one_t (w:World)(x:Bool)(y:Int):Rs tmc 2 (w.alloc (.cells #[.bool x,.int .u64 y] 62)) (w.alloc (.cells #[.bool x,.int .u64 y] 62)).heap.size (some ⟨w.heap.size,0,none⟩) 1 1 [(x,y)]:=
 Rs.of_blk tmc_len (heap_alloc_new w _) ⟨[],rfl⟩ rfl (Nat.le_refl _) (by unfold maxLen;omega)
end
set_option maxRecDepth 100000 in
set_option maxHeartbeats 16000000 in
theorem pairsOf_any (v:Value)(S:Bo.Sr)(z:Sen)(A1:Option Addr)(n1 c1:Nat)(A2:Option Addr)(n2 c2:Nat)(A3:Option Addr)(n3 c3:Nat)(A4:Option Addr)(n4 c4:Nat)(w:World)(hs:Bo.SrtIn w v S)(h:SenAt w z A1 n1 c1 A2 n2 c2 A3 n3 c3 A4 n4 c4)(hn:n1≤400):
  Calls Tryz.prog 19 #[v,senV A1 n1 c1 A2 n2 c2 A3 n3 c3 A4 n4 c4] w fun e w'=> ∃A N c,e= .returned (.tuple #[.slice A N c,.int .i64 (trmN S z:Int)])∧w'.ownsRow w.heap.size 62 2 (.slice A N c) N ((trmL S z).flatMap tmc)∧Below w.heap.size w w':=by
 have hb0:Below w.heap.size w (w.alloc (.cells #[.slice A1 n1 c1,.slice A2 n2 c2,.slice A3 n3 c3,.slice A4 n4 c4] 28)):=(Below.refl _ _).alloc (Nat.le_refl _) _
 have hz:=ZB.of (heap_alloc_new w (.cells #[.slice A1 n1 c1,.slice A2 n2 c2,.slice A3 n3 c3,.slice A4 n4 c4] 28))
 have HLK:=Lib.hid (plook_any v S z A1 n1 c1 A2 n2 c2 A3 n3 c3 A4 n4 c4 _ (hs.keep hb0) (h.keep hb0) hn)
 have HB0:=Lib.hid hb0
 have HLIM:Hid (lim z≤400):=Lib.hid (by
  have h1:=h.rp.len
  unfold lim
  split <;> omega)
 have z0:=hz.p0
 have z1:=hz.p1
 have z2:=hz.p2
 have z3:=hz.p3
 have hmm:= @run_makeMap Tryz.prog
 unfold senV at HLK ⊢
 clear hb0 hz hs h hn
 go_enter Tryz.func19,Tryz.ntmps19
 go_wp2_with fail
 refine HLK.out.mono ?_
 rintro e w1 ⟨F,nf,cf,X,nx,cx,V,nv,cv,O,no,co,rfl,htd,hrd,hv⟩
 have HB1:=Lib.hid (HB0.out.trans (hv.mono HB0.out.size))
 have HTD:=Lib.hid htd
 have HRD:=Lib.hid hrd
 have HNF:=Lib.hid htd.sz
 unfold tdV
 clear htd hrd hv HLK z0 z1 z2 z3
 have HSV:=Lib.hid (HTD.out.srt)
 have ka:=heap_alloc_new w1 (.cells #[.nilIface,.slice none 0 0,.slice none 0 0,.slice none 0 0,.slice none 0 0,.slice none 0 0,.slice none 0 0,.slice none 0 0,.slice none 0 0] 108)
 have hsv:=store_v HSV.out (W:=w1.alloc (.cells #[.nilIface,.slice none 0 0,.slice none 0 0,.slice none 0 0,.slice none 0 0,.slice none 0 0,.slice none 0 0,.slice none 0 0,.slice none 0 0] 108)) (a:=⟨w1.heap.size,0,none⟩) ((cell_blk (i:=0) ka).trans rfl) (frozen_blk ka)
 obtain⟨w2,hw2⟩: ∃w2,w1.alloc (.cells #[v,.slice A1 n1 c1,.slice A2 n2 c2,.slice A3 n3 c3,.slice A4 n4 c4,.slice F nf cf,.slice X nx cx,.slice V nv cv,.slice O no co] 108)=w2:=⟨_,rfl⟩
 obtain⟨w3,hw3⟩: ∃w3,w2.alloc (.map #[] 0)=w3:=⟨_,rfl⟩
 have k2:w2.heap[w1.heap.size]?=some (.cells #[v,.slice A1 n1 c1,.slice A2 n2 c2,.slice A3 n3 c3,.slice A4 n4 c4,.slice F nf cf,.slice X nx cx,.slice V nv cv,.slice O no co] 108 (0,0)):=by rw[← hw2];exact heap_alloc_new w1 _
 have b2:Below w1.heap.size w1 w2:=by rw[← hw2];exact(Below.refl _ _).alloc (Nat.le_refl _) _
 have b3:Below w2.heap.size w2 w3:=hw3▸(Below.refl _ _).alloc (Nat.le_refl _) _
 have HM3:Hid (MapIs enI 3 60 .u64 w3 w2.heap.size 0 (fun _=>none)):=Lib.hid (by rw[← hw3];exact MapIs.made w2)
 have b13:Below w1.heap.size w1 w3:=b2.trans (b3.mono b2.size)
 have hx3:=TBx.of ((b3.block _ (lt_blk k2)).trans k2)
 have HX3:=Lib.hid hx3
 have HTD3:=Lib.hid (HTD.out.keep b13)
 have HR3:=Lib.hid ((HRD.out.below b13).mono b13.size)
 have HB3:=Lib.hid (HB1.out.trans (b13.mono HB1.out.size))
 have s2:w2.heap.size=w1.heap.size+1:=by rw[← hw2];simp
 rw[s2] at HM3
 have HS3:Hid (w1.heap.size+1 < w3.heap.size):=Lib.hid HM3.out.lt
 have hw3':(w1.alloc (.cells #[v,.slice A1 n1 c1,.slice A2 n2 c2,.slice A3 n3 c3,.slice A4 n4 c4,.slice F nf cf,.slice X nx cx,.slice V nv cv,.slice O no co] 108)).alloc (.map #[] 0)=w3:=by rw[hw2];exact hw3
 have y5:=hx3.p5
 clear ka k2 b2 b3 b13 hx3 HTD HRD s2 hw3 hw2
 go_wp2_with fail
 clear hw3' y5 hsv
 obtain⟨bm,hbm⟩: ∃b,w1.heap.size+1=b:=⟨_,rfl⟩
 rw[hbm] at HM3 HS3
 simp only[hbm]
 go_loopw [4,20] (fun v4 v20 wr=> ∃(i:Nat) (A:Option Addr) (N c:Nat),v4= .slice A N c∧v20= .int .i64 (i:Int)∧i≤nf∧wr.ownsRow w3.heap.size 62 2 (.slice A N c) N ((trmI S z i).flatMap tmc)∧MapIs enI 3 60 .u64 wr bm ((cfg S z).cnt i) (nmF S z i)∧Kept (· =bm) w3 wr) (fun _ v20 _=>nf - (intOf v20).toNat)
 case atStart=>exact⟨0,none,0,0,rfl,rfl,Nat.zero_le _,World.ownsRow_nil _ _ _ _,by rw[nmF_zero,show(cfg S z).cnt 0=0 from rfl];exact HM3.out,Kept.refl _ _⟩
 case round=>
  obtain⟨i,A5,N5,c5,rfl,rfl,hi,hown,hmap,hk⟩:=hrel
  have HMAP:=Lib.hid hmap
  have HOWN:=Lib.hid hown
  have HK:=Lib.hid hk
  have CK:Hid (∀(p:Addr) (u:Value),w3.cell? p=some u→wr.cell? p=some u):=Lib.hid fun p u hc=>cell_kept HM3.out hk hc
  by_cases hlt:i < nf
  ·have hlz:i < lim z:=by have:=HNF.out;omega
   obtain⟨bf,of,rfl,ef⟩:=HTD3.out.atF hlz
   obtain⟨bx,ox,rfl,ex⟩:=HTD3.out.atX hlz
   have y6:=CK.out _ _ HX3.out.p6
   replace ef:=CK.out _ _ ef
   replace ex:=CK.out _ _ ex
   have HLT:=Lib.hid hlt
   have hN:=rs_own_len tmc_len (by decide) hown
   have hN1:N5+1≤100000:=by have:=HNF.out;have:=HLIM.out;rw[trmI_len] at hN;omega
   have hin:(i:Int) < (nf:Int):=by omega
   have hinx:(i:Int) < (nx:Int):=by have:=HNF.out;omega
   have hi9:i≤60000:=by have:=HNF.out;have:=HLIM.out;omega
   have HADD:Hid (∀(W w':World) (m:Nat) (f:Nat→Option Nat) (A:Option Addr) (k' c':Nat) (vs:List Value),MapIs enI 3 60 .u64 W bm m f→Kept (· =bm) w3 W→Appended W w' w3.heap.size 62 2 (.slice A5 N5 c5) (.slice A k' c') k' vs→W.ownsRow w3.heap.size 62 2 (.slice A5 N5 c5) N5 ((trmI S z i).flatMap tmc)→MapIs enI 3 60 .u64 w' bm m f∧Kept (· =bm) w3 w'):=Lib.hid fun W w' m f A k' c' vs h1 h2 h3 h4=>by
    have hb:Below w3.heap.size W w':=(Below.refl _ _).grown h3.grown h2.size fun j hj=>(h4.lt j hj).1
    exact⟨h1.move (hb.block bm HS3.out),Kept.then_below h2 hb⟩
   cases hfx:fixB S z i with
   |true=>
    obtain⟨bv,ov,rfl,ev⟩:=HTD3.out.atV hlz hfx
    rw[hfx] at ex
    have y7:=CK.out _ _ HX3.out.p7
    replace ev:=CK.out _ _ ev
    have HNX:Hid (trmI S z (i+1)=trmI S z i++ [(false,(valF z i:Int))]):=Lib.hid (by rw[trmI_next,trm,if_pos hfx])
    have HFX:=Lib.hid (nmF_fixed (S:=S) hfx)
    have hinv:(i:Int) < (nv:Int):=by have:=HNF.out;omega
    generalize valF z i=vf at*
    generalize first z i=fi at*
    have HO:=Lib.hid (one_t wr false (vf:Int))
    have HAL:=Lib.hid (show Below wr.heap.size wr (wr.alloc (.cells #[.bool false,.int .u64 (vf:Int)] 62)) from(Below.refl _ _).alloc (Nat.le_refl _) _)
    have HW:=Lib.hid (own_behind hown HAL.out)
    have HK2:=Lib.hid (hk.trans (Kept.of_below HAL.out))
    have HM2:=Lib.hid (hmap.below HAL.out)
    have hsz2:w3.heap.size≤(wr.alloc (.cells #[.bool false,.int .u64 (vf:Int)] 62)).heap.size:=HK2.out.size
    clear hi hlt hlz hown hmap hk hN hfx
    go_wp2_with (at_builtin;refine wpList_append_rs tmc_len (by decide) tmc_one Tryz.underlying29 tm_inf rfl (by decide) rfl (.tmp 30) (.tmp 37) rfl w3.heap.size _ N5 _ rfl HW.out _ _ 1 1 [(false,(vf:Int))] rfl HO.out hN1 hsz2 ?_;intro A' k' c' w' HKK HA)
    go_roundw
    case rel=>
     have h:=HADD.out _ w' _ _ A' k' c' _ HM2.out HK2.out HA.out HW.out
     exact⟨i+1,A',k',c',rfl,by go_num,HLT.out,by rw[HNX.out];exact HA.out.own,by rw[HFX.out.1,HFX.out.2];exact h.1,h.2⟩
    case measure=>
     have:=HLT.out
     simp[intOf]
     omega
   |false=>
    rw[hfx] at ex
    have hfl:first z i < lim z:=Nat.lt_of_le_of_lt (first_le z i) hlz
    have hol:(oneL S z).length=lim z:=by unfold oneL;rw[RL_len]
    obtain⟨bo,oo,rfl,-,hco⟩:=HR3.out.spot (by have:=HR3.out.len;omega)
    have eo:=CK.out _ _ (hco (first z i) (by rw[hol];exact hfl))
    have eo2:(oneL S z)[first z i]'(by rw[hol];exact hfl)=(cfg S z).home i:=by simp[oneL,RL,Cfg.home,cfg]
    rw[eo2] at eo
    replace eo:wr.cell? ⟨bo,oo+first z i,none⟩=some (.int .i64 ((cfg S z).home i:Int)):=eo
    have y8:=CK.out _ _ HX3.out.p8
    have hfo:((first z i:Nat):Int) < (no:Int):=by have:=HR3.out.len;omega
    have hh9:(cfg S z).home i≤1000000:=by
     have hw:=(lim_whole hlz)
     have:=(home_cls (cfg_ok (S:=S) hw.1) (i:=i) hw.2 hfx).1
     have hl:=lim_eq hw.1
     have:(cfg S z).home i < z.p.length:=this
     have:=HLIM.out
     omega
    have hf9:first z i≤60000:=by have:=HLIM.out;omega
    have HNX:Hid (trmI S z (i+1)=trmI S z i++ [(true,((cfg S z).num i:Int))]):=Lib.hid (by rw[trmI_next,trm,if_neg (by rw[hfx];simp)])
    have HSOME:Hid (∀v,nmF S z i ((cfg S z).home i)=some v→v=(cfg S z).num i∧nmF S z (i+1)=nmF S z i∧(cfg S z).cnt (i+1)=(cfg S z).cnt i):=Lib.hid fun v e=>nmF_some hfx e
    have HNONE:Hid (nmF S z i ((cfg S z).home i)=none→(cfg S z).num i=(cfg S z).cnt i∧nmF S z (i+1)=putF (nmF S z i) ((cfg S z).home i) ((cfg S z).cnt i)∧(cfg S z).cnt (i+1)=(cfg S z).cnt i+1):=Lib.hid fun e=>nmF_none hfx e
    have HCL:Hid ((cfg S z).cnt i≤400):=Lib.hid (by have:=cnt_le (cfg S z) i;have:=HLIM.out;omega)
    have HKEY:=Lib.hid (keyI hh9)
    generalize (cfg S z).home i=hm at*
    generalize first z i=fi at*
    generalize (cfg S z).num i=nm at*
    clear hi hlt hlz hown hmap hk hN hfx hfl hol hco eo2 hh9
    obtain⟨o,ho⟩: ∃o,nmF S z i hm=o:=⟨_,rfl⟩
    have HOO:=Lib.hid ho
    cases o with
    |some y=>
     obtain⟨rfl,h2,h3⟩:=HSOME.out y ho
     have HH:=Lib.hid (And.intro h2 h3)
     have HO:=Lib.hid (one_t wr true (y:Int))
     have HAL:=Lib.hid (show Below wr.heap.size wr (wr.alloc (.cells #[.bool true,.int .u64 (y:Int)] 62)) from(Below.refl _ _).alloc (Nat.le_refl _) _)
     have HW:=Lib.hid (own_behind HOWN.out HAL.out)
     have HK2:=Lib.hid (HK.out.trans (Kept.of_below HAL.out))
     have HM2:=Lib.hid (HMAP.out.below HAL.out)
     have hsz2:w3.heap.size≤(wr.alloc (.cells #[.bool true,.int .u64 (y:Int)] 62)).heap.size:=HK2.out.size
     clear ho h2 h3
     go_wp2_with (first
      |(at_lookup;refine wp_look_ok rfl _ _ 110 rfl lawI Tryz.underlying110 Tryz.underlying60 zero42 HMAP.out rfl hm rfl HKEY.out y (by rw[HOO.out];rfl) true (by rw[HOO.out];rfl) ?_)
      |(at_lookup;refine wp_look rfl _ _ 110 rfl lawI Tryz.underlying110 Tryz.underlying60 zero42 HMAP.out rfl hm rfl HKEY.out y (by rw[HOO.out];rfl) ?_)
      |(at_builtin;refine wpList_append_rs tmc_len (by decide) tmc_one Tryz.underlying29 tm_inf rfl (by decide) rfl (.tmp 57) (.tmp 62) rfl w3.heap.size _ N5 _ rfl HW.out _ _ 1 1 [(true,(y:Int))] rfl HO.out hN1 hsz2 ?_;intro A' k' c' w' HKK HA))
     go_roundw
     case rel=>
      have h:=HADD.out _ w' _ _ A' k' c' _ HM2.out HK2.out HA.out HW.out
      exact⟨i+1,A',k',c',rfl,by go_num,HLT.out,by rw[HNX.out];exact HA.out.own,by rw[HH.out.1,HH.out.2];exact h.1,h.2⟩
     case measure=>
      have:=HLT.out
      simp[intOf]
      omega
    |none=>
     obtain⟨h1,h2,h3⟩:=HNONE.out ho
     have HH:=Lib.hid (And.intro h2 h3)
     rw[← h1] at HMAP HH HCL
     clear h1 h2 h3 ho
     have hnm9:nm≤400:=HCL.out
     have HST:Hid (∀(w':World),MapIs enI 3 60 .u64 w' bm (nm+1) (putF (nmF S z i) hm nm)→Kept (· =bm) wr w'→
       Rs tmc 2 (w'.alloc (.cells #[.bool true,.int .u64 (nm:Int)] 62)) (w'.alloc (.cells #[.bool true,.int .u64 (nm:Int)] 62)).heap.size (some ⟨w'.heap.size,0,none⟩) 1 1 [(true,(nm:Int))]∧
       (w'.alloc (.cells #[.bool true,.int .u64 (nm:Int)] 62)).ownsRow w3.heap.size 62 2 (.slice A5 N5 c5) N5 ((trmI S z i).flatMap tmc)∧MapIs enI 3 60 .u64 (w'.alloc (.cells #[.bool true,.int .u64 (nm:Int)] 62)) bm (nm+1) (putF (nmF S z i) hm nm)∧
       Kept (· =bm) w3 (w'.alloc (.cells #[.bool true,.int .u64 (nm:Int)] 62))∧w3.heap.size≤(w'.alloc (.cells #[.bool true,.int .u64 (nm:Int)] 62)).heap.size):=Lib.hid fun w' g1 g2=>by
      have hal:Below w'.heap.size w' (w'.alloc (.cells #[.bool true,.int .u64 (nm:Int)] 62)):=(Below.refl _ _).alloc (Nat.le_refl _) _
      have hkk:=(HK.out.trans g2).trans (Kept.of_below (D:=(· =bm)) hal)
      refine⟨one_t w' true (nm:Int),own_behind (own_same HOWN.out fun q hq=> ?_) hal,g1.below hal,hkk,hkk.size⟩
      have h1:=HOWN.out.lt q hq
      exact g2.block q h1.2 (by have:=HS3.out;omega)
     go_wp2_with (first
      |(at_lookup;refine wp_look_ok rfl _ _ 110 rfl lawI Tryz.underlying110 Tryz.underlying60 zero42 HMAP.out rfl hm rfl HKEY.out 0 (by rw[HOO.out];rfl) false (by rw[HOO.out];rfl) ?_)
      |(at_len;refine wp_len rfl _ 110 rfl Tryz.underlying110 HMAP.out rfl ?_)
      |(at_mapUpdate;refine wp_put rfl _ _ _ 110 rfl lawI Tryz.underlying110 Tryz.underlying60 enI_inj HMAP.out rfl hm rfl HKEY.out nm rfl (wf64 (by omega)) (by unfold maxLen;omega) HOO.out ?_;intro w7 hm7 hk7;have HM7:=Lib.hid hm7;have HST7:=Lib.hid (HST.out w7 hm7 hk7);clear hm7 hk7)
      |(at_lookup;refine wp_look rfl _ _ 110 rfl lawI Tryz.underlying110 Tryz.underlying60 zero42 HM7.out rfl hm rfl HKEY.out nm (by rw[putF_same];rfl) ?_)
      |(at_builtin;refine wpList_append_rs tmc_len (by decide) tmc_one Tryz.underlying29 tm_inf rfl (by decide) rfl (.tmp 57) (.tmp 62) rfl w3.heap.size _ N5 _ rfl HST7.out.2.1 _ _ 1 1 [(true,(nm:Int))] rfl HST7.out.1 hN1 HST7.out.2.2.2.2 ?_;intro A' k' c' w' HKK HA))
     go_roundw
     case rel=>
      have h:=HADD.out _ w' _ _ A' k' c' _ HST7.out.2.2.1 HST7.out.2.2.2.1 HA.out HST7.out.2.1
      exact⟨i+1,A',k',c',rfl,by go_num,HLT.out,by rw[HNX.out];exact HA.out.own,by rw[HH.out.1,HH.out.2];exact h.1,h.2⟩
     case measure=>
      have:=HLT.out
      simp[intOf]
      omega
  ·obtain rfl:i=nf:=by omega
   have hmm2:=HMAP.out
   rw[HNF.out.1,trm_end.2] at hmm2
   have HMM:=Lib.hid hmm2
   have HO:Hid (wr.ownsRow w.heap.size 62 2 (.slice A5 N5 c5) N5 ((trmL S z).flatMap tmc)):=Lib.hid (own_baseN (by rw[← trm_end.1, ← HNF.out.1];exact hown) HB3.out.size)
   have HBE:Hid (Below w.heap.size w wr):=Lib.hid (HB3.out.trans (hk.below HB3.out.size fun b e=>by
    have:=HB1.out.size
    omega))
   clear hlt hi hown hmap hk hmm2
   go_wp2_with (at_len;refine wp_len rfl _ 110 rfl Tryz.underlying110 HMM.out rfl ?_)
   go_ret2
   exact⟨A5,N5,c5,rfl,HO.out,HBE.out⟩
end Go.Proofs.YtmejhedegmjboaaGreat.I
namespace Go.Proofs.YtmejhedegmjboaaGreat
open Go.RowKit
set_option maxRecDepth 100000 in
set_option maxHeartbeats 1000000 in
theorem mul64N_any (m:Nat)(w:World)(hm:m≤60000):Calls Tryz.prog 142 #[.int .u64 1,.int .u64 (m:Int)] w fun e w'=>e= .returned (.tuple #[.int .u64 0,.int .u64 (m:Int)])∧w=w':=by
 have h1:bits .and .u64 (m:Int) 4294967295=(m:Int):=by
  have:=u64_and_nat m 4294967295 (by omega) (by decide)
  rw[show((4294967295:Nat):Int)=4294967295 from rfl] at this
  rw[this,show(4294967295:Nat)=2 ^ 32 - 1 from rfl,Nat.and_two_pow_sub_one_eq_mod,Nat.mod_eq_of_lt (by omega)]
 have h2:(m:Int) / 4294967296=0:=by omega
 have h3:IntKind.u64.wrap (m:Int)=(m:Int):=by rw[IntKind.wrap_u64];omega
 have h4:bits .and .u64 1 4294967295=1:=by decide+kernel
 have h5:bits .and .u64 0 4294967295=0:=by decide+kernel
 have h6:IntKind.u64.wrap 0=0:=by decide+kernel
 go_enter Tryz.func142,Tryz.ntmps142
 go_wp2
 exact bodyPost_ret (v:= .tuple #[.int .u64 0,.int .u64 (m:Int)]) (by simp[results,Tryz.results142,go_sem]) rfl ⟨rfl,rfl⟩
set_option maxRecDepth 100000 in
theorem mulN_any (m:Nat)(w:World)(hm:m≤60000):Calls Tryz.prog 105 #[.int .u64 1,.int .u64 (m:Int)] w fun e w'=>e= .returned (.tuple #[.int .u64 0,.int .u64 (m:Int)])∧w=w':=by
 go_enter Tryz.func105,Tryz.ntmps105
 go_wp2_with fail
 refine(mul64N_any m _ hm).mono ?_
 rintro e w1 ⟨rfl,rfl⟩
 go_wp2_with fail
 exact bodyPost_ret (v:= .tuple #[.int .u64 0,.int .u64 (m:Int)]) (by simp[results,Tryz.results105,go_sem]) rfl ⟨rfl,rfl⟩
def ReRelN (w:World)(g:Nat)(d:Int)(m:Nat)(v8:Value)(wr:World):Prop:= ∃k:Nat,v8= .int .i64 (k:Int)∧k≤m∧(0 < m→0 < k)∧wr.heap[g]?=some (.cells (half d k m).toArray 3 (0,0))∧Below w.heap.size w wr
set_option maxRecDepth 100000 in
set_option maxHeartbeats 1000000 in
theorem repeatN_any (b o c:Nat)(d:Int)(m:Nat)(w:World)(hm:m≤60000)(hb:b < w.heap.size)(hc:w.cell? ⟨b,o,none⟩=some (.int .i64 d)):
  Calls Tryz.prog 60 #[.slice (some ⟨b,o,none⟩) 1 c,.int .i64 (m:Int)] w fun e w'=> ∃g,e= .returned (.slice (some ⟨g,0,none⟩) m m)∧w.heap.size≤g∧w'.heap[g]?=some (.cells (List.replicate m (.int .i64 d)).toArray 3 (0,0))∧Below w.heap.size w w':=by
 obtain⟨i0,hi0,hz0,hz1,hz2⟩:=info_parts int_inf
 have hw1:IntKind.u64.wrap (m:Int)=(m:Int):=by rw[IntKind.wrap_u64];omega
 have hw2:IntKind.i64.wrap (m:Int)=(m:Int):=by rw[IntKind.wrap_i64];omega
 have hneg: ¬(m:Int) < 0:=by omega
 have hbig: ¬(9223372036854775807:Int) < (m:Int):=by omega
 go_enter Tryz.func60,Tryz.ntmps60
 go_wp2_with fail
 refine(mulN_any m _ hm).mono ?_
 rintro e w1 ⟨rfl,rfl⟩
 have hmk: ∀W,(Instr.makeSlice 82 (.int .i64 (m:Int)) (.int .i64 (m:Int))).run Tryz.prog W= .ok (.slice (some ⟨W.heap.size,0,none⟩) m m) (W.alloc (.cells (half d 0 m).toArray 3)):=by
  intro W
  have:=run_make (P:=Tryz.prog) W 82 3 i0 _ Tryz.underlying82 hi0 hz0 .i64 .i64 m m (by omega) (Int.le_refl _) (by rw[hz2];omega) (by omega)
  rw[this,hz1,Nat.mul_one,Int.toNat_natCast,show(Value.int IntKind.i64 0).cells= #[.int .i64 0] from rfl]
  congr 3
  apply Array.ext
  ·simp[madeCells,half]
  ·intro i h1 h2
   simp[madeCells,half,Nat.mod_one]
 have hg0:=heap_alloc_new w (.cells (half d 0 m).toArray 3)
 have hb0:Below w.heap.size w (w.alloc (.cells (half d 0 m).toArray 3)):=(Below.refl _ _).alloc (Nat.le_refl _) _
 obtain⟨q,hq⟩: ∃q,q=min 1 m:=⟨_,rfl⟩
 have H1:Hid ((List.replicate q (Value.int .i64 d)).length=Nat.min 1 m):=Lib.hid (by rw[List.length_replicate];exact hq)
 have H2:Hid (∀j v,(List.replicate q (Value.int .i64 d))[j]?=some v→(w.alloc (.cells (half d 0 m).toArray 3)).cell? ((⟨b,o,none⟩:Addr).add j)=some v):=by
  refine Lib.hid fun j v hv=> ?_
  rw[List.getElem?_replicate] at hv
  split at hv
  ·injection hv with hv
   subst hv
   obtain rfl:j=0:=by omega
   rw[Addr.add_lit,Nat.add_zero]
   exact(hb0.cell (p:=⟨b,o,none⟩) hb).trans hc
  ·cases hv
 have H3:Hid ((List.replicate q (Value.int .i64 d)).length≤(half d 0 m).length):=Lib.hid (by rw[List.length_replicate,half_len d (by omega)];omega)
 have H4:Hid (∀v∈List.replicate q (Value.int .i64 d),v.oneCell'=true):=Lib.hid fun v hv=>by rw[List.eq_of_mem_replicate hv];rfl
 have H5:Hid (splice (half d 0 m) 0 (List.replicate q (.int .i64 d))=half d q m):=Lib.hid (by have:=half_more d (k:=0) (j:=q) (m:=m) (by omega);rw[Nat.zero_add] at this;exact this)
 have H6:Hid ((List.replicate q (Value.int .i64 d)).length=q):=Lib.hid (List.length_replicate ..)
 obtain⟨cs,hcs⟩: ∃cs,cs=List.replicate q (Value.int .i64 d):=⟨_,rfl⟩
 rw[← hcs] at H1 H2 H3 H4 H5 H6
 clear hcs
 obtain⟨cur,hcur⟩: ∃cur,cur=half d 0 m:=⟨_,rfl⟩
 rw[← hcur] at H2 H3 H5 hmk hg0 hb0
 clear hcur hc
 have HG:=Lib.hid hg0
 have HQ:=Lib.hid hq
 clear hg0 hq
 go_wp2_with (with_reducible refine wpList_copy_splice rfl (.tmp 31) (.tmp 32) 82 82 rfl 3 Tryz.underlying82 int_siz (some ⟨w.heap.size,0,none⟩) (some ⟨b,o,none⟩) m m 1 c rfl rfl w.heap.size 0 cur 3 HG.out cs H1.out (fun _=>⟨rfl,_,rfl,H2.out⟩) (by rw[Nat.zero_add];exact H3.out) H4.out w.heap.size w hb0 (Nat.le_refl _) ?_;intro w2 HG2 hb2)
 have hg2:w2.heap[w.heap.size]?=some (.cells (half d q m).toArray 3 (0,0)):=by rw[← H5.out];exact HG2.out
 rw[H6.out]
 have hqm:q≤m∧(0 < m→0 < q):=by have:=HQ.out;omega
 clear HG HG2 hb0 H1 H2 H3 H4 H5 H6 hmk cs cur HQ
 go_loopw [8] (fun v8 wr=>ReRelN w w.heap.size d m v8 wr) (fun v8 _=>m - (intOf v8).toNat)
 case atStart=>exact⟨q,rfl,hqm.1,hqm.2,hg2,hb2⟩
 case round=>
  clear hg2 hb2 hqm
  obtain⟨k,rfl,hk,hk0,hg,hbr⟩:=hrel
  by_cases hlt:k < m
  ·have hkp:=hk0 (by omega)
   obtain⟨j,hj⟩: ∃j,j=min k (m - k):=⟨_,rfl⟩
   have hjm:k+j≤m:=by omega
   have hs1: ∀W,(Instr.slice 82 (.slice (some ⟨w.heap.size,0,none⟩) m m) (some (.int .i64 (k:Int))) none none).run Tryz.prog W= .ok (.slice (some ⟨w.heap.size,k,none⟩) (m - k) (m - k)) W:=by
    intro W
    rw[run_slice_l W 82 _ _ _ (by rw[show Tryz.prog.elem 82=3 by simp[Program.elem,Tryz.underlying82]];exact Tryz.underlying82) .i64 _ (by omega) (by omega),show Tryz.prog.elem 82=3 by simp[Program.elem,Tryz.underlying82],int_size]
    have: ¬m=k:=by omega
    simp[Result.andThen,sliced,this,Addr.add_lit]
   have hs2: ∀W,(Instr.slice 82 (.slice (some ⟨w.heap.size,0,none⟩) m m) none (some (.int .i64 (k:Int))) none).run Tryz.prog W= .ok (.slice (some ⟨w.heap.size,0,none⟩) k m) W:=by
    intro W
    rw[run_slice_h W 82 _ _ _ (by rw[show Tryz.prog.elem 82=3 by simp[Program.elem,Tryz.underlying82]];exact Tryz.underlying82) .i64 _ (by omega) (by omega),show Tryz.prog.elem 82=3 by simp[Program.elem,Tryz.underlying82],int_size]
    simp[Result.andThen,sliced,Addr.add_lit]
   have G1:Hid ((List.replicate j (Value.int .i64 d)).length=Nat.min k (m - k)):=Lib.hid (by rw[List.length_replicate];exact hj)
   have G2:Hid (∀i v,(List.replicate j (Value.int .i64 d))[i]?=some v→wr.drew.cell? ((⟨w.heap.size,0,none⟩:Addr).add i)=some v):=
    Lib.hid fun i v hv=>half_cell (w:=wr.drew) hg (by omega) v hv
   have G3:Hid (k+(List.replicate j (Value.int .i64 d)).length≤(half d k m).length):=Lib.hid (by rw[List.length_replicate,half_len d (by omega)];omega)
   have G4:Hid (∀v∈List.replicate j (Value.int .i64 d),v.oneCell'=true):=Lib.hid fun v hv=>by rw[List.eq_of_mem_replicate hv];rfl
   have G5:Hid (splice (half d k m) k (List.replicate j (.int .i64 d))=half d (k+j) m):=Lib.hid (half_more d hjm)
   have G6:Hid ((List.replicate j (Value.int .i64 d)).length=j):=Lib.hid (List.length_replicate ..)
   have G7:Hid (wr.drew.heap[w.heap.size]?=some (.cells (half d k m).toArray 3 (0,0))):=Lib.hid hg
   have G8:Hid (Below w.heap.size w wr.drew):=Lib.hid ⟨hbr.os,hbr.tape,hbr.output,hbr.size,hbr.block⟩
   obtain⟨cs,hcs⟩: ∃cs,cs=List.replicate j (Value.int .i64 d):=⟨_,rfl⟩
   rw[← hcs] at G1 G2 G3 G4 G5 G6
   clear hcs
   obtain⟨cur,hcur⟩: ∃cur,cur=half d k m:=⟨_,rfl⟩
   rw[← hcur] at G3 G5 G7
   clear hcur hg
   have HJ:=Lib.hid hj
   clear hj
   go_wp2_with fail
   refine wp_region_ord [0,1,2,3,4,5,6,7,8,9] [7,8,9] 10 (fun _=>True) (by kernel_rfl) (by kernel_rfl) (by kernel_rfl) (by kernel_rfl) (fun _ _ _ _ _ h=>h) trivial ?_
   simp only[steps,List.getElem?_cons_zero,List.getElem?_cons_succ]
   repeat(first
    |(refine ord_yes (v:= ?_) rfl rfl ?_ ?_;rotate_left;(focus(rintro w' -;go_simp;try with_reducible rfl));simp only[Act.put,List.setIfInBounds_toArray,List.set_cons_zero,List.set_cons_succ]))
   refine ord_hard rfl rfl (fun K hK=> ?_)
   refine wp_copy_row (.tmp 41) (.tmp 44) 82 82 rfl 3 Tryz.underlying82 int_siz w.heap.size k (m - k) (m - k) ⟨w.heap.size,0,none⟩ k m rfl rfl cur 3 G7.out cs G1.out G2.out G3.out G4.out w.heap.size w G8.out (Nat.le_refl _) ?_
   intro w4 hg4 hb4
   refine hK.out _ _ (fun _=>trivial) ?_
   clear hK K
   rw[G5.out] at hg4
   rw[show goInt cs.length= .int .i64 (j:Int) by rw[G6.out];rfl]
   have hwr:IntKind.i64.wrap ((k:Int)+(j:Int))=(k:Int)+(j:Int):=by rw[IntKind.wrap_i64];omega
   clear G1 G2 G3 G4 G5 G6 G7 G8
   simp only[Act.put,List.setIfInBounds_toArray,List.set_cons_zero,List.set_cons_succ]
   refine ord_hard rfl rfl (fun K hK=> ?_)
   go_simp
   refine hK.out _ _ (fun _=>trivial) ?_
   clear hK K
   try simp only[Act.put,List.setIfInBounds_toArray,List.set_cons_zero,List.set_cons_succ]
   refine ord_hard rfl rfl (fun K hK=> ?_)
   go_simp
   refine hK.out _ _ (fun _=>trivial) ?_
   clear hK K
   try simp only[Act.put,List.setIfInBounds_toArray,List.set_cons_zero,List.set_cons_succ]
   refine ord_end ?_
   have hj0:0 < j:=by have:=HJ.out;omega
   clear HJ
   go_wp2
   go_roundw
   case rel=>exact⟨k+j,by go_num,hjm,fun _=>by omega,hg4,hb4⟩
   case measure=>simp[intOf];omega
  ·obtain rfl:k=m:=by omega
   go_wp2
   go_ret
   exact⟨w.heap.size,rfl,Nat.le_refl _,by rw[hg,half_full],hbr⟩
end Go.Proofs.YtmejhedegmjboaaGreat
namespace Go.Proofs.YtmejhedegmjboaaGreat.I
open Go.RowKit PaC
def zcl (l:List Int):Array Value:=(l.map fun x=>Value.int .i64 x).toArray
theorem zcl_at {l:List Int}{j:Nat}(h:j < l.length):(zcl l)[j]?=some (.int .i64 l[j]):=by
 rw[zcl,List.getElem?_toArray,List.getElem?_map,List.getElem?_eq_getElem h]
 rfl
theorem zcl_set (l:List Int)(j:Nat)(v:Int):(zcl l).setIfInBounds j (.int .i64 v)=zcl (l.set j v):=by
 simp[zcl,List.map_set]
noncomputable def seatI (S:Bo.Sr) (z:Sen) (but n i:Nat):List Int:=(List.range n).map fun v=>optZ ((cfg S z).seat but v i)
theorem seatI_len (S:Bo.Sr)(z:Sen)(but n i:Nat):(seatI S z but n i).length=n:=by simp[seatI]
theorem seatI_zero (S:Bo.Sr)(z:Sen)(but n:Nat):List.replicate n (-1)=seatI S z but n 0:=by
 apply List.ext_getElem (by simp[seatI])
 intro k h1 h2
 simp[seatI,Cfg.seat,optZ]
theorem seatI_no {S:Bo.Sr}{z:Sen}{but n i:Nat}(h:fixB S z i=true∨sd z i=but):seatI S z but n (i+1)=seatI S z but n i:=by
 apply List.map_congr_left
 intro v _
 congr 1
 rw[Cfg.seat,if_neg]
 intro e
 simp only[Bool.and_eq_true,Bool.not_eq_true',decide_eq_false_iff_not,decide_eq_true_eq] at e
 rcases h with h|h
 ·have e1:fixB S z i=false:=e.1
  rw[h] at e1
  cases e1
 ·exact e.2.1 h
theorem seatI_yes {S:Bo.Sr}{z:Sen}{but n i:Nat}(h:fixB S z i=false)(hs:sd z i≠but):seatI S z but n (i+1)=(seatI S z but n i).set ((cfg S z).num i) (i:Int):=by
 apply List.ext_getElem (by simp[seatI])
 intro v h1 h2
 rw[List.getElem_set]
 simp only[seatI,List.getElem_map,List.getElem_range]
 have hs':(cfg S z).sd i≠but:=hs
 have h':(cfg S z).fx i=false:=h
 rw[Cfg.seat]
 by_cases e:(cfg S z).num i=v
 ·rw[if_pos e,if_pos (by rw[h',e];simp[hs'])]
  rfl
 ·rw[if_neg e,if_neg (by simp[e])]
set_option maxRecDepth 100000 in
set_option maxHeartbeats 8000000 in
theorem seats_any (but:Nat)(S:Bo.Sr)(z:Sen)(A1:Option Addr)(n1 c1:Nat)(A2:Option Addr)(n2 c2:Nat)(A3:Option Addr)(n3 c3:Nat)(A4:Option Addr)(n4 c4:Nat)(A:Option Addr)(n c:Nat)(w:World)(h:SenAt w z A1 n1 c1 A2 n2 c2 A3 n3 c3 A4 n4 c4)(hn:n1≤400)(hl:Rs tmc 2 w w.heap.size A n c (trmL S z)):
  Calls Tryz.prog 31 #[senV A1 n1 c1 A2 n2 c2 A3 n3 c3 A4 n4 c4,.slice A n c,.int .i64 (trmN S z:Int),.int .u8 (but:Int)] w fun e w'=> ∃g,e= .returned (.slice (some ⟨g,0,none⟩) (trmN S z) (trmN S z))∧w.heap.size≤g∧w'.heap[g]?=some (.cells (zcl (seatI S z but (trmN S z) (lim z))) 3 (0,0))∧Below w.heap.size w w':=by
 have hb0:Below w.heap.size w (w.alloc (.cells #[.slice A1 n1 c1,.slice A2 n2 c2,.slice A3 n3 c3,.slice A4 n4 c4] 28)):=(Below.refl _ _).alloc (Nat.le_refl _) _
 have hz:=ZB.of (heap_alloc_new w (.cells #[.slice A1 n1 c1,.slice A2 n2 c2,.slice A3 n3 c3,.slice A4 n4 c4] 28))
 have HLIM:Hid (lim z≤400∧lim z≤n1):=Lib.hid (by
  have h1:=h.rp.len
  unfold lim
  split <;> omega)
 have HTN:Hid (trmN S z≤400):=Lib.hid (by
  rw[← trm_end.2]
  have:=cnt_le (cfg S z) (lim z)
  have:=HLIM.out
  omega)
 have HLN:Hid (n=lim z):=Lib.hid (by rw[← hl.len, ← trm_end.1,trmI_len])
 have HSEN:Hid (∀W,Below w.heap.size w W→SenAt W z A1 n1 c1 A2 n2 c2 A3 n3 c3 A4 n4 c4):=Lib.hid fun W hW=>h.keep hW
 have HTM:Hid (∀W,Below w.heap.size w W→Rs tmc 2 W W.heap.size A n c (trmL S z)):=Lib.hid fun W hW=>hl.at_size (Nat.le_refl _) hW
 obtain⟨w1,hw1⟩: ∃w1,(w.alloc (.cells #[.slice A1 n1 c1,.slice A2 n2 c2,.slice A3 n3 c3,.slice A4 n4 c4] 28)).alloc (.cells #[.int .i64 (-1)] 3)=w1:=⟨_,rfl⟩
 have sx:(w.alloc (.cells #[.slice A1 n1 c1,.slice A2 n2 c2,.slice A3 n3 c3,.slice A4 n4 c4] 28)).heap.size=w.heap.size+1:=World.size_alloc _ _
 have b1:Below (w.alloc (.cells #[.slice A1 n1 c1,.slice A2 n2 c2,.slice A3 n3 c3,.slice A4 n4 c4] 28)).heap.size (w.alloc (.cells #[.slice A1 n1 c1,.slice A2 n2 c2,.slice A3 n3 c3,.slice A4 n4 c4] 28)) w1:=hw1▸(Below.refl _ _).alloc (Nat.le_refl _) _
 have hk1:w1.heap[w.heap.size+1]?=some (.cells #[.int .i64 (-1)] 3 (0,0)):=by rw[← sx, ← hw1];exact heap_alloc_new _ _
 have hz1:=hz.keep b1
 have HB1:=Lib.hid (hb0.trans (b1.mono hb0.size))
 have HZ1:=Lib.hid hz1
 have HRP:=Lib.hid (repeatN_any (w.heap.size+1) 0 1 (-1) (trmN S z) w1 (by have:=HTN.out;omega) (lt_blk hk1) ((cell_blk (i:=0) hk1).trans rfl))
 obtain⟨tn,htn⟩: ∃x,trmN S z=x:=⟨_,rfl⟩
 rw[htn] at HRP HTN ⊢
 have HTT:=Lib.hid htn
 unfold senV
 clear hb0 hz h hl hk1 hz1 b1 sx htn
 go_enter Tryz.func31,Tryz.ntmps31
 go_wp2_with fail
 refine HRP.out.mono ?_
 rintro e w2 ⟨g,rfl,hg,hk,hv⟩
 have HG:Hid (w1.heap.size≤g):=Lib.hid hg
 have HG2:Hid (w2.heap[g]?=some (.cells (zcl (seatI S z but tn 0)) 3 (0,0))):=Lib.hid (by rw[← seatI_zero,hk];simp[zcl])
 have HB2:=Lib.hid hv
 clear hg hk hv HRP hw1
 go_wp2_with fail
 go_loopw [17] (fun v17 wr=> ∃i:Nat,v17= .int .i64 (i:Int)∧i≤n∧wr.heap[g]?=some (.cells (zcl (seatI S z but tn i)) 3 (0,0))∧Below w1.heap.size w1 wr) (fun v17 _=>n - (intOf v17).toNat)
 case atStart=>exact⟨0,rfl,Nat.zero_le _,HG2.out,HB2.out⟩
 case round=>
  clear HG2 HB2
  obtain⟨i,rfl,hi,hk,hb⟩:=hrel
  have hbw:=HB1.out.trans (hb.mono HB1.out.size)
  by_cases hlt:i < n
  ·have hlz:i < lim z:=by have:=HLN.out;omega
   obtain⟨hw,hip⟩:=lim_whole hlz
   have hil:i < (trmL S z).length:=by rw[← trm_end.1,trmI_len];exact hlz
   obtain⟨b6,o6,rfl,-,u0,u1⟩:=term_at (HTM.out wr hbw) hil
   have et:(trmL S z)[i]=trm S z i:=by simp only[trmL,if_pos hw,List.getElem_map,List.getElem_range]
   rw[et] at u0 u1
   obtain⟨p0,o0,rfl,-,-,-,e2,-,-⟩:=spot_at (HSEN.out wr hbw).rp hip
   have HSD:Hid (sd z i=z.p[i].s):=Lib.hid (sd_at hip)
   generalize z.p[i].s=xs at*
   have y0:=(HZ1.out.keep hb).p0
   have HLT:=Lib.hid hlt
   have HBR:=Lib.hid hb
   have HKR:=Lib.hid hk
   have hin:(i:Int) < (n:Int):=by omega
   have hin1:(i:Int) < (n1:Int):=by have:=HLIM.out;omega
   have hi9:i≤60000:=by have:=HLN.out;have:=HLIM.out;omega
   cases hfx:fixB S z i with
   |true=>
    have e:trm S z i=(false,(valF z i:Int)):=by unfold trm;rw[if_pos hfx]
    rw[e] at u0 u1
    generalize (valF z i:Int)=vf at*
    have HNX:Hid (seatI S z but tn (i+1)=seatI S z but tn i):=Lib.hid (seatI_no (.inl hfx))
    have HAL:=Lib.hid (show Below wr.heap.size wr (wr.alloc (.cells #[.bool false,.int .u64 vf] 62)) from(Below.refl _ _).alloc (Nat.le_refl _) _)
    have y0:=cell_old y0 HAL.out
    have e2:=cell_old e2 HAL.out
    clear hi hk hb hbw hlt hlz hw hip hil et hfx e
    go_wp2_with fail
    go_roundw
    case rel=>exact⟨i+1,by go_num,HLT.out,by rw[HNX.out];exact(HAL.out.block g (lt_blk HKR.out)).trans HKR.out,HBR.out.trans (HAL.out.mono HBR.out.size)⟩
    case measure=>
     have:=HLT.out
     simp[intOf]
     omega
   |false=>
    have e:trm S z i=(true,((cfg S z).num i:Int)):=by unfold trm;rw[if_neg (by rw[hfx];simp)]
    rw[e] at u0 u1
    have hnum:(cfg S z).num i < tn:=by
     rw[← HTT.out, ← trm_end.2]
     exact num_lt hfx hlz
    by_cases hsb:xs=but
    ·subst hsb
     have g1:((xs:Int) !=(xs:Int))=false:=by simp
     have HNX:Hid (seatI S z xs tn (i+1)=seatI S z xs tn i):=Lib.hid (seatI_no (.inr HSD.out))
     generalize (cfg S z).num i=nm at*
     have HAL:=Lib.hid (show Below wr.heap.size wr (wr.alloc (.cells #[.bool true,.int .u64 (nm:Int)] 62)) from(Below.refl _ _).alloc (Nat.le_refl _) _)
     have y0:=cell_old y0 HAL.out
     have e2:=cell_old e2 HAL.out
     clear hi hk hb hbw hlt hlz hw hip hil et hfx e hnum
     go_wp2_with fail
     go_roundw
     case rel=>exact⟨i+1,by go_num,HLT.out,by rw[HNX.out];exact(HAL.out.block g (lt_blk HKR.out)).trans HKR.out,HBR.out.trans (HAL.out.mono HBR.out.size)⟩
     case measure=>
      have:=HLT.out
      simp[intOf]
      omega
    ·have g1:((xs:Int) !=(but:Int))=true:=by simp;omega
     have HNX:Hid (seatI S z but tn (i+1)=(seatI S z but tn i).set ((cfg S z).num i) (i:Int)):=Lib.hid (seatI_yes hfx (by rw[HSD.out];exact hsb))
     generalize (cfg S z).num i=nm at*
     have HAL:=Lib.hid (show Below wr.heap.size wr (wr.alloc (.cells #[.bool true,.int .u64 (nm:Int)] 62)) from(Below.refl _ _).alloc (Nat.le_refl _) _)
     have y0:=cell_old y0 HAL.out
     have e2:=cell_old e2 HAL.out
     have HKA:=Lib.hid ((HAL.out.block g (lt_blk HKR.out)).trans HKR.out)
     have d0:=(cell_blk (i:=nm) HKA.out).trans (zcl_at (by rw[seatI_len];exact hnum))
     have f0:=frozen_blk (i:=nm) HKA.out
     have hnn:(nm:Int) < (tn:Int):=by omega
     have hn9:nm≤60000:=by have:=HTN.out;omega
     have HST:=Lib.hid (set_blk (i:=nm) HKA.out (.int .i64 (i:Int)))
     have HBS:=Lib.hid (below_set (HBR.out.trans (HAL.out.mono HBR.out.size)) HG.out (p:=⟨g,nm,none⟩) (.int .i64 (i:Int)))
     generalize (seatI S z but tn i)[nm]'_=vx at*
     clear hi hk hb hbw hlt hlz hw hip hil et hfx e hsb
     go_wp2_with fail
     go_roundw
     case rel=>exact⟨i+1,by go_num,HLT.out,by rw[HNX.out, ← zcl_set];exact HST.out,HBS.out⟩
     case measure=>
      have:=HLT.out
      simp[intOf]
      omega
  ·obtain rfl:n=i:=by omega
   have HK:Hid (wr.heap[g]?=some (.cells (zcl (seatI S z but tn (lim z))) 3 (0,0))):=Lib.hid (by rw[← HLN.out];exact hk)
   have HBW:=Lib.hid hbw
   have HGG:Hid (w.heap.size≤g):=Lib.hid (Nat.le_trans HB1.out.size HG.out)
   clear hlt hi hk hb hbw
   go_wp2_with fail
   go_ret
   exact⟨g,rfl,HGG.out,HK.out,HBW.out⟩
set_option maxRecDepth 100000 in
theorem ends_any (v:Value)(S:Bo.Sr)(w:World)(hs:Bo.SrtIn w v S):Calls Tryz.prog 32 #[v] w fun e w'=>e= .returned (.tuple #[.int .u64 (S.bot:Int),.int .u64 (S.top:Int)])∧Below w.heap.size w w':=by
 rcases hs with⟨rfl,rfl⟩|hs
 ·go_enter Tryz.func32,Tryz.ntmps32
  go_wp2
  go_ret2
  exact⟨rfl,Below.refl _ _⟩
 ·rcases hs with⟨a,rfl,hA⟩|⟨a,rfl,hA⟩|⟨rfl,hA⟩
  all_goals(
   have HC:=Lib.hid (hA.bot w (Below.refl _ _))
   have HD:=Lib.hid fun W (hW:Below w.heap.size w W)=>hA.top W hW
   generalize S.bot=x at*
   generalize S.top=y at*
   clear hA
   go_enter Tryz.func32,Tryz.ntmps32
   go_wp2_with fail
   refine HC.out.mono ?_
   rintro e w1 ⟨rfl,hb⟩
   have HB:=Lib.hid hb
   clear hb HC
   go_wp2_with fail
   refine(HD.out w1 HB.out).mono ?_
   rintro e w2 ⟨rfl,hb⟩
   have HB2:=Lib.hid (HB.out.trans (hb.mono HB.out.size))
   clear hb HD
   go_wp2_with fail
   go_ret2
   exact⟨rfl,HB2.out⟩)
end Go.Proofs.YtmejhedegmjboaaGreat.I
