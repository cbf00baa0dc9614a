/- Put; PutB: merged. -/
/- Rows2; Law; Law2: merged. -/
import Derived.Lib.SliceRun
import Derived.Test.YtmejhedegmjboaaGreatOf
import Derived.Test.YtmejhedegmjboaaGreatTerms
namespace Go.Proofs.YtmejhedegmjboaaGreat
open Go.RowKit
theorem spot_at {w:World}{B n c:Nat}{A:Option Addr}{l:List Sp}(h:Rs spc 5 w B A n c l){k:Nat}(hk:k < l.length): ∃b o,A=some ⟨b,o,none⟩∧b < B∧
  w.cell? ⟨b,o+k*5,none⟩=some (.int .i64 (l[k].n:Int))∧w.cell? ⟨b,o+k*5+1,none⟩=some (.int .u8 (l[k].p:Int))∧w.cell? ⟨b,o+k*5+2,none⟩=some (.int .u8 (l[k].s:Int))∧w.cell? ⟨b,o+k*5+3,none⟩=some (.bool l[k].v)∧w.cell? ⟨b,o+k*5+4,none⟩=some (.int .u64 l[k].z):=by
 obtain⟨b,o,e,hb,hc⟩:=h.spot (by have:=h.len;omega)
 have hc:=hc k hk
 exact⟨b,o,e,hb,hc 0 _ rfl,hc 1 _ rfl,hc 2 _ rfl,hc 3 _ rfl,hc 4 _ rfl⟩
theorem own_behind {w w':World}{base n sz:Nat}{E:TypeId}{v:Value}{xs:List Value}(h:w.ownsRow base E sz v n xs)(hb:Below w.heap.size w w'):w'.ownsRow base E sz v n xs:=by
 refine⟨h.1,?_⟩
 rcases h.2 with hn|⟨g,cap,cur,hv,hg,hgg,r⟩
 ·exact .inl hn
 ·exact .inr ⟨g,cap,cur,hv,hg,(hb.block g (lt_blk hgg)).trans hgg,r⟩
set_option maxRecDepth 100000 in
set_option maxHeartbeats 1000000 in
theorem clone_any (A:Option Addr)(n c B:Nat)(l:List Nd)(w:World)(hr:Ns w B A n c l)(hB:B≤w.heap.size)(h0:0 < n)(hn:n≤1000):
  Calls Tryz.prog 49 #[.slice A n c] w fun e w'=> ∃A' c',e= .returned (.slice A' n c')∧w'.ownsRow w.heap.size 116 10 (.slice A' n c') n (l.flatMap ndc)∧Below w.heap.size w w':=by
 obtain⟨b,o,rfl,-⟩:=hr.spot h0
 have hal:Below w.heap.size w (w.alloc (.cells #[] 116)):=(Below.refl _ _).alloc (Nat.le_refl _) _
 have hr1:=hr.below (hal.mono hB)
 have hown:(w.alloc (.cells #[] 116)).ownsRow w.heap.size 116 10 (.slice (some ⟨w.heap.size,0,none⟩) 0 0) 0 (([]:List Nd).flatMap ndc):=own_of_blk (heap_alloc_new w _) (Nat.le_refl _) rfl rfl (by unfold maxLen;omega)
 have hnil: ∀W,(binOp .eql 47 (.slice (some ⟨b,o,none⟩) n c) (.slice none 0 0)).run Tryz.prog W= .ok (.bool false) W:=fun W=>Lib.run_eql_slice_nil W _ _ _ _ _ _ _ Tryz.underlying47
 go_enter Tryz.func49,Tryz.ntmps49
 go_wp2_with (refine wpList_append_nd rfl (.tmp 5) (.tmp 6) rfl w.heap.size (.slice (some ⟨w.heap.size,0,none⟩) 0 0) 0 [] rfl hown B _ n c l rfl hr1 (by omega) (by simp) ?_;intro A1 k1 c1 w1 HK HA)
 go_ret
 have hk:k1=n:=by have:=HK.out;omega
 subst hk
 have hown1:=HA.out.own
 rw[List.nil_append] at hown1
 refine⟨A1,c1,rfl,hown1,hal.grown HA.out.grown (by simp) fun j hj=> ?_⟩
 have e:j=w.heap.size:=by simpa [Value.ownBlock] using hj.symm
 omega
theorem own_put {w:World}{base g n c:Nat}{o:List Nd}(h:w.ownsRow base 116 10 (.slice (some ⟨g,0,none⟩) n c) n (o.flatMap ndc)){i:Nat}(hi:i < o.length)(p:Nat)(hp:p≤2)(t:Tm):
  ((w.setCell ⟨g,i*10+po p,none⟩ (.bool t.1)).setCell ⟨g,i*10+po p+1,none⟩ (.int .u64 t.2)).ownsRow base 116 10 (.slice (some ⟨g,0,none⟩) n c) n ((o.set i (o[i].put p t)).flatMap ndc):=by
 have step: ∀(W:World) (y y':Nd) (j:Nat) (x:Value),W.ownsRow base 116 10 (.slice (some ⟨g,0,none⟩) n c) n ((o.set i y).flatMap ndc)→j < 10→ndc y'=(ndc y).set j x→(W.setCell ⟨g,i*10+j,none⟩ x).ownsRow base 116 10 (.slice (some ⟨g,0,none⟩) n c) n ((o.set i y').flatMap ndc):=by
  intro W y y' j x hW hj hy
  have:=own_set hW (k:=i) (by simpa using hi) (i:=j) (u:=x) hj (y:=y') (by simpa using hy)
  rwa [List.set_set] at this
 have h0:w.ownsRow base 116 10 (.slice (some ⟨g,0,none⟩) n c) n ((o.set i o[i]).flatMap ndc):=by rw[List.set_getElem_self];exact h
 have h3:p=0∨p=1∨p=2:=by omega
 rcases h3 with rfl|rfl|rfl
 ·exact step _ _ _ 5 _ (step _ _ {o[i] with lv:=t.1} 4 _ h0 (by decide) rfl) (by decide) rfl
 ·exact step _ _ _ 7 _ (step _ _ {o[i] with pv:=t.1} 6 _ h0 (by decide) rfl) (by decide) rfl
 ·exact step _ _ _ 9 _ (step _ _ {o[i] with ev:=t.1} 8 _ h0 (by decide) rfl) (by decide) rfl
def FlRel (ps:List Sp)(ts:List Tm)(m:List Nd)(base:Nat)(A:Option Addr)(n c:Nat)(w:World)(v10:Value)(wr:World):Prop:=
 ∃k:Nat,v10= .int .i64 (k:Int)∧k≤ps.length∧wr.ownsRow base 116 10 (.slice A n c) n ((fillB m (ps.take k) (ts.take k)).flatMap ndc)∧Kept (fun b=>(Value.slice A n c).ownBlock=some b) w wr
set_option maxRecDepth 100000 in
set_option maxHeartbeats 2000000 in
theorem fill_any (Bf base B1:Nat)(A A1 A2:Option Addr)(n c n1 c1 c2:Nat)(m:List Nd)(ps:List Sp)(ts:List Tm)(w:World)(hcell:w.cell? ⟨Bf,0,none⟩=some (.slice A n c))(hne:(Value.slice A n c).ownBlock≠some Bf)(hown:w.ownsRow base 116 10 (.slice A n c) n (m.flatMap ndc))
  (hps:Rs spc 5 w B1 A1 n1 c1 ps) (hts:Rs tmc 2 w B1 A2 n1 c2 ts) (hB:B1≤base) (hb:base≤w.heap.size) (hin: ∀p∈ps,p.n < n∧p.p≤2):
  Calls Tryz.prog 51 #[.func (.func 92) #[] #[.pointer (some ⟨Bf,0,none⟩)],.slice A1 n1 c1,.slice A2 n1 c2] w fun e w'=>e= .returned (.tuple #[])∧w'.ownsRow base 116 10 (.slice A n c) n ((fillB m ps ts).flatMap ndc)∧Kept (fun b=>(Value.slice A n c).ownBlock=some b) w w':=by
 have HL1:=Lib.hid hps.len
 have HL2:=Lib.hid hts.len
 have htop:=hps.top
 have hcap:=hps.cap
 unfold maxLen at htop
 have hmx:Tryz.prog.follows .mixedOrders=true:=by kernel_rfl
 have hBf:=World.block_lt_of_cell? w ⟨Bf,0,none⟩ hcell
 have HKP:Hid (∀wr,Kept (fun b=>(Value.slice A n c).ownBlock=some b) w wr→wr.cell? ⟨Bf,0,none⟩=some (.slice A n c)∧Rs spc 5 wr B1 A1 n1 c1 ps∧Rs tmc 2 wr B1 A2 n1 c2 ts):=by
  refine Lib.hid fun wr hk=> ?_
  have hlow: ∀k,k < B1→wr.heap[k]?=w.heap[k]?:=fun k h=>hk.block k (by omega) fun e=>by have:=(own_block hown e).1;omega
  exact⟨(hk.cell (p:=⟨Bf,0,none⟩) hBf hne).trans hcell,hps.keep hlow,hts.keep hlow⟩
 have HIN:=Lib.hid hin
 have H0:Hid (FlRel ps ts m base A n c w (.int .i64 0) w):=Lib.hid ⟨0,rfl,Nat.zero_le _,by simpa [fillB] using hown,Kept.refl _ _⟩
 have hml:=rs_own_len ndc_len (by decide) hown
 have HML:=Lib.hid hml
 clear hcell hps hts hin hown hml
 go_enter Tryz.func51,Tryz.ntmps51
 go_wp2
 go_loopw [10] (fun v10 wr=>FlRel ps ts m base A n c w v10 wr) (fun v10 _=>n1 - (intOf v10).toNat)
 case atStart=>exact H0.out
 case round=>
  clear H0
  obtain⟨k,rfl,hk,hown,hkp⟩:=hrel
  by_cases hlt:k < n1
  ·have hk1:k < ps.length:=by rw[HL1.out];exact hlt
   have hk2:k < ts.length:=by rw[HL2.out];exact hlt
   obtain⟨hcell,hps,hts⟩:=HKP.out wr hkp
   obtain⟨b1,o1,rfl,hb1,s0,s1,s2,s3,s4⟩:=spot_at hps hk1
   obtain⟨b2,o2,rfl,hb2,t0,t1⟩:=term_at hts hk2
   obtain⟨hpn,hpp⟩:=HIN.out _ (List.getElem_mem hk1)
   have HSTEP:Hid (fillB m (ps.take (k+1)) (ts.take (k+1))=(fillB m (ps.take k) (ts.take k)).set ps[k].n (((fillB m (ps.take k) (ts.take k)).getD ps[k].n ⟨0,0,[],0,false,0,false,0,false,0⟩).put ps[k].p ts[k])):=by
    refine Lib.hid ?_
    rw[List.take_succ_eq_append_getElem hk1,List.take_succ_eq_append_getElem hk2]
    exact fill_snoc _ _ m _ _ (by rw[List.length_take,List.length_take];omega)
   generalize fillB m (ps.take k) (ts.take k)=mk at*
   generalize hmk1:fillB m (ps.take (k+1)) (ts.take (k+1))=mk1 at*
   have HMK1:=Lib.hid hmk1
   clear hmk1
   generalize ps[k]=q at*
   generalize ts[k]=t at*
   obtain⟨qn,qp,qs,qv,qz⟩:=q
   simp only at s0 s1 s2 s3 s4 hpn hpp HSTEP
   have hmk:=rs_own_len ndc_len (by decide) hown
   obtain⟨g,rfl,hgb,hgl,hgc,hgf⟩:=own_node hown (k:=qn) (by omega)
   have hal:Below wr.heap.size wr (wr.alloc (.cells #[.int .i64 (qn:Int),.int .u8 (qp:Int),.int .u8 (qs:Int),.bool qv,.int .u64 qz] 67)):=(Below.refl _ _).alloc (Nat.le_refl _) _
   have hblk:=heap_alloc_new wr (.cells #[.int .i64 (qn:Int),.int .u8 (qp:Int),.int .u8 (qs:Int),.bool qv,.int .u64 qz] 67)
   have hfind:=fun W (hb:Below wr.heap.size wr W)=>finder_any qn qp Bf W.heap.size (some ⟨g,0,none⟩) n c mk W ((hb.cell (p:=⟨Bf,0,none⟩) (World.block_lt_of_cell? wr ⟨Bf,0,none⟩ hcell)).trans hcell) (Rs.of_own ndc_len (by decide) (own_behind hown hb)) (by omega) hpp
   have ht0:=(hal.cell (p:=⟨b2,o2+k*2,none⟩) (World.block_lt_of_cell? wr ⟨b2,_,none⟩ t0)).trans t0
   have ht1:=(hal.cell (p:=⟨b2,o2+k*2+1,none⟩) (World.block_lt_of_cell? wr ⟨b2,_,none⟩ t1)).trans t1
   have hk0:=(cell_blk (i:=0) hblk).trans rfl
   have hk1':=(cell_blk (i:=1) hblk).trans rfl
   have hf0:=hgf (qn*10+po qp)
   have hf1:=hgf (qn*10+po qp+1)
   have hqm:qn < mk.length:=by omega
   have hcs:=node_tm (Rs.of_own ndc_len (by decide) hown) hqm qp
   obtain⟨wd,hwd⟩: ∃wd,wd=(wr.alloc (.cells #[.int .i64 (qn:Int),.int .u8 (qp:Int),.int .u8 (qs:Int),.bool qv,.int .u64 qz] 67)).drew:=⟨_,rfl⟩
   have hald:Below wr.heap.size wr wd:=by rw[hwd];exact hal.drew
   have HW:=Lib.hid (own_put (own_behind hown hald) hqm qp hpp t)
   have HKW:Hid (Kept (fun b=>(Value.slice (some ⟨g,0,none⟩) n c).ownBlock=some b) w ((wd.setCell ⟨g,qn*10+po qp,none⟩ (.bool t.1)).setCell ⟨g,qn*10+po qp+1,none⟩ (.int .u64 t.2))):=Lib.hid (((hkp.trans (Kept.of_below hald)).setCell (p:=⟨g,qn*10+po qp,none⟩) (.inl rfl) _).setCell (p:=⟨g,qn*10+po qp+1,none⟩) (.inl rfl) _)
   rw[List.getD_eq_getElem?_getD,List.getElem?_eq_getElem hqm,Option.getD_some] at HSTEP
   rw[← HSTEP.out] at HW
   rw[Nat.zero_add] at hcs
   generalize hap:qn*10+po qp=ap at*
   have hlt1:(k:Int) < (n1:Int):=by omega
   have hc0:=(hald.cell (p:=⟨g,ap,none⟩) hgl).trans hcs.1
   have hc1:=(hald.cell (p:=⟨g,ap+1,none⟩) hgl).trans hcs.2
   have hz0:wd.frozen? ⟨g,ap,none⟩=false:=(World.frozen?_of_block (hald.block g hgl)).trans hf0
   have hz1:wd.frozen? ⟨g,ap+1,none⟩=false:=(World.frozen?_of_block (hald.block g hgl)).trans hf1
   have HWD:=Lib.hid hwd
   have HFI:=Lib.hid (hfind (wr.alloc (.cells #[.int .i64 (qn:Int),.int .u8 (qp:Int),.int .u8 (qs:Int),.bool qv,.int .u64 qz] 67)).drew ⟨hal.os,hal.tape,hal.output,hal.size,hal.block⟩)
   have HC:=Lib.hid (And.intro (And.intro hc0 hc1) (And.intro hz0 hz1))
   clear hgc hgf hcs hf0 hf1 hfind hown hkp hblk HSTEP t0 t1 hps hts hal hcell hwd hald hc0 hc1 hz0 hz1
   go_wp2_with fail
   refine wp_region_ord [0,1,2,3,4,6,7,8,9,5,10,11] [5,11] 11 (fun w'=>w'.cell? ⟨wr.heap.size,0,none⟩=some (.int .i64 (qn:Int))∧w'.cell? ⟨wr.heap.size,1,none⟩=some (.int .u8 (qp:Int))∧w'.cell? ⟨b2,o2+k*2,none⟩=some (.bool t.1)∧w'.cell? ⟨b2,o2+k*2+1,none⟩=some (.int .u64 t.2)) hmx (by kernel_rfl) (by kernel_rfl) (by kernel_rfl) (fun _ _ _ _ _ h=>h) ⟨hk0,hk1',ht0,ht1⟩ ?_
   simp only[steps,List.getElem?_cons_zero,List.getElem?_cons_succ]
   repeat(first|(refine ord_yes (v:= ?_) rfl rfl ?_ ?_;rotate_left;(focus(rintro w' ⟨hS0,hS1,hS2,hS3⟩;go_simp;try with_reducible rfl));try simp only[Act.put,List.setIfInBounds_toArray,List.set_cons_zero,List.set_cons_succ]))
   refine ord_hard rfl rfl (fun K hK=> ?_)
   go_simp
   refine HFI.out.mono ?_
   rintro e w4 ⟨⟨b',o',heq,rfl⟩,rfl⟩
   injection heq with heq
   injection heq with e1 e2
   subst e1
   subst e2
   rw[Nat.zero_add,hap]
   refine hK.out _ _ (fun _=>⟨hk0,hk1',ht0,ht1⟩) ?_
   clear hK K
   try simp only[Act.put,List.setIfInBounds_toArray,List.set_cons_zero,List.set_cons_succ]
   repeat(first|(refine ord_yes (v:= ?_) rfl rfl ?_ ?_;rotate_left;(focus(rintro w' ⟨hS0,hS1,hS2,hS3⟩;go_simp;try with_reducible rfl));try simp only[Act.put,List.setIfInBounds_toArray,List.set_cons_zero,List.set_cons_succ]))
   refine ord_hard rfl rfl (fun K hK=> ?_)
   rw[← HWD.out]
   obtain⟨⟨hc0,hc1⟩,hz0,hz1⟩:=HC.out
   have hc1':(wd.setCell ⟨g,ap,none⟩ (.bool t.1)).cell? ⟨g,ap+1,none⟩=some _:=(World.cell?_setCell_other wd ⟨g,ap,none⟩ ⟨g,ap+1,none⟩ (.bool t.1) (by simp)).trans hc1
   go_simp
   refine hK.out _ _ (fun h=>absurd rfl h) ?_
   clear hK K hc0 hc1 hz0 hz1 hc1'
   refine ord_end ?_
   have HREL:=Lib.hid (show FlRel ps ts m base (some ⟨g,0,none⟩) n c w (.int .i64 ((k:Int)+1)) _ from⟨k+1,by go_num,by omega,by rw[HMK1.out];exact HW.out,HKW.out⟩)
   clear HW HKW HFI HC HWD hk0 hk1' ht0 ht1 s0 s1 s2 s3 s4
   generalize (wd.setCell ⟨g,ap,none⟩ (.bool t.1)).setCell ⟨g,ap+1,none⟩ (.int .u64 t.2)=we at*
   go_wp2
   go_roundw
   case rel=>exact HREL.out
   case measure=>simp[intOf];omega
  ·obtain rfl:k=n1:=by have:=HL1.out;omega
   have h1:ps.take k=ps:=List.take_of_length_le (by rw[HL1.out];exact Nat.le_refl _)
   have h2:ts.take k=ts:=List.take_of_length_le (by rw[HL2.out];exact Nat.le_refl _)
   rw[h1,h2] at hown
   have HO:=Lib.hid hown
   have HK:=Lib.hid hkp
   clear hown hkp h1 h2
   go_wp2
   go_end0
   exact⟨rfl,HO.out,HK.out⟩
end Go.Proofs.YtmejhedegmjboaaGreat
namespace Go.Proofs.YtmejhedegmjboaaGreat
open Go.RowKit
theorem lab_in: ∀(l:List Nd) (k:Nat) (ss:List Nat),∀p∈lab k l ss,p.n < k+l.length∧p.p≤2
 | [],_,_,p,h=>by simp[lab] at h
 |_::_,_,[],p,h=>by simp[lab] at h
 |x::l,k,s::ss,p,h=>by
  simp only[lab,List.mem_append] at h
  rcases h with h|h
  ·unfold labS at h
   split at h
   ·simp only[List.mem_cons,List.not_mem_nil,or_false] at h
    rcases h with rfl|rfl <;> simp
   ·simp only[List.mem_cons,List.not_mem_nil,or_false] at h
    subst h
    simp
  ·have:=lab_in l (k+1) ss p h
   rw[List.length_cons]
   omega
theorem eff_in: ∀(l:List Nd) (k:Nat) (ss:List Nat),∀p∈eff k l ss,p.n < k+l.length∧p.p≤2
 | [],_,_,p,h=>by simp[eff] at h
 |_::_,_,[],p,h=>by simp[eff] at h
 |x::l,k,s::ss,p,h=>by
  simp only[eff,List.mem_append] at h
  rcases h with h|h
  ·unfold effS at h
   split at h
   ·simp only[List.mem_cons,List.not_mem_nil,or_false] at h
    subst h
    simp
   ·simp at h
  ·have:=eff_in l (k+1) ss p h
   rw[List.length_cons]
   omega
theorem labB_in (l:List Nd): ∀p∈labB l,p.n < l.length∧p.p≤2:=by
 unfold labB
 split
 ·intro p hp
  have:=lab_in l 0 _ p hp
  omega
 ·simp
theorem effB_in (l:List Nd): ∀p∈effB l,p.n < l.length∧p.p≤2:=by
 unfold effB
 split
 ·intro p hp
  have:=eff_in l 0 _ p hp
  omega
 ·simp
def putR (l:List Nd)(ts us:List Tm):Nat:=if checkB l≠0 then 4 else if ts.length=(labB l).length∧us.length=(effB l).length then 0 else 1
def putV (l:List Nd)(ts us:List Tm):List Nd:=if putR l ts us=0 then putB l ts us else []
set_option maxRecDepth 100000 in
set_option maxHeartbeats 2000000 in
theorem put_any (A A1 A2:Option Addr)(n c n1 c1 n2 c2:Nat)(l:List Nd)(ts us:List Tm)(w:World)(hr:Ns w w.heap.size A n c l)(hf: ∀x∈l,x.Fits)(h1:Rs tmc 2 w w.heap.size A1 n1 c1 ts)(h2:Rs tmc 2 w w.heap.size A2 n2 c2 us):
  Calls Tryz.prog 20 #[.slice A n c,.slice A1 n1 c1,.slice A2 n2 c2] w fun e w'=> ∃A' k c',e= .returned (.tuple #[.slice A' k c',.int .i64 (putR l ts us:Int)])∧w'.ownsRow w.heap.size 116 10 (.slice A' k c') k ((putV l ts us).flatMap ndc)∧Below w.heap.size w w':=by
 have HF:=Lib.hid hf
 have HR:=Lib.hid hr
 have H1:=Lib.hid h1
 have H2:=Lib.hid h2
 have hcheck:=check_any A n c l w hr hf
 have HL1:=Lib.hid h1.len
 have HL2:=Lib.hid h2.len
 have HLN:=Lib.hid hr.len
 clear hf hr h1 h2
 go_enter Tryz.func20,Tryz.ntmps20
 go_wp2_with fail
 refine hcheck.mono ?_
 rintro e w1 ⟨rfl,hb1⟩
 clear hcheck
 by_cases hc:checkB l=0
 case neg=>
  have hne:((checkB l:Int) !=0)=true:=by simp;omega
  have HP:Hid (putR l ts us=4∧putV l ts us= []):=Lib.hid (by
   have h4:putR l ts us=4:=by unfold putR;rw[if_pos hc]
   exact⟨h4,by unfold putV;rw[h4,if_neg (by decide)]⟩)
  clear hc
  generalize checkB l=r at*
  go_wp2
  refine bodyPost_ret (v:= .tuple #[.slice none 0 0,.int .i64 4]) (by simp[results,Tryz.results20,go_sem]) rfl ⟨none,0,0,by rw[HP.out.1];rfl,by rw[HP.out.2];exact World.ownsRow_nil _ _ _ _,hb1⟩
 rw[hc]
 go_wp2_with fail
 refine(of_any A n c l w1 (HR.out.at_size (Nat.le_refl _) hb1) HF.out).mono ?_
 rintro e w2 ⟨v,u,rfl,hT⟩
 have hb2:=hb1.trans (hT.bel.mono hb1.size)
 have hl1:=labB_len l
 have hl2:=effB_len l
 obtain⟨Av,cv,rfl⟩:=rs_own_form hT.o2
 obtain⟨Au,cu,rfl⟩:=rs_own_form hT.o3
 have HT:=Lib.hid hT
 have HPF:Hid (∀ts us,ts.length=(labB l).length→us.length=(effB l).length→fillB (fillB l (labB l) ts) (effB l) us=putB l ts us):=Lib.hid fun ts us=>putB_fill hc
 have hn0:=check_len hc
 rw[HLN.out] at hn0
 have HP:Hid (putR l ts us=if n1=(labB l).length∧n2=(effB l).length then 0 else 1):=Lib.hid (by unfold putR;rw[if_neg (by simp[hc]),HL1.out,HL2.out])
 have HLI:=Lib.hid (labB_in l)
 have HEI:=Lib.hid (effB_in l)
 clear hT hc
 generalize labB l=ls at*
 generalize effB l=es at*
 generalize hkl:ls.length=kl at*
 generalize hke:es.length=ke at*
 have HKL:=Lib.hid hkl
 have HKE:=Lib.hid hke
 clear hkl hke
 by_cases g1:n1=kl
 case neg=>
  have g1':((n1:Int) !=(kl:Int))=true:=by simp;omega
  have HQ:Hid (putR l ts us=1∧putV l ts us= []):=Lib.hid (by
   have h4:putR l ts us=1:=by rw[HP.out,if_neg (by omega)]
   exact⟨h4,by unfold putV;rw[h4,if_neg (by decide)]⟩)
  go_wp2
  refine bodyPost_ret (v:= .tuple #[.slice none 0 0,.int .i64 1]) (by simp[results,Tryz.results20,go_sem]) rfl ⟨none,0,0,by rw[HQ.out.1];rfl,by rw[HQ.out.2];exact World.ownsRow_nil _ _ _ _,hb2⟩
 subst g1
 have g1':((n1:Int) !=(n1:Int))=false:=by simp
 by_cases g2:n2=ke
 case neg=>
  have g2':((n2:Int) !=(ke:Int))=true:=by simp;omega
  have HQ:Hid (putR l ts us=1∧putV l ts us= []):=Lib.hid (by
   have h4:putR l ts us=1:=by rw[HP.out,if_neg (by omega)]
   exact⟨h4,by unfold putV;rw[h4,if_neg (by decide)]⟩)
  go_wp2
  refine bodyPost_ret (v:= .tuple #[.slice none 0 0,.int .i64 1]) (by simp[results,Tryz.results20,go_sem]) rfl ⟨none,0,0,by rw[HQ.out.1];rfl,by rw[HQ.out.2];exact World.ownsRow_nil _ _ _ _,hb2⟩
 subst g2
 have g2':((n2:Int) !=(n2:Int))=false:=by simp
 have HQ:Hid (putR l ts us=0∧putV l ts us=putB l ts us):=Lib.hid (by
  have h4:putR l ts us=0:=by rw[HP.out,if_pos ⟨rfl,rfl⟩]
  exact⟨h4,by unfold putV;rw[h4,if_pos rfl]⟩)
 go_wp2_with fail
 refine(clone_any A n c w2.heap.size l w2 (HR.out.at_size (Nat.le_refl _) hb2) (Nat.le_refl _) (by omega) (by omega)).mono ?_
 rintro e w3 ⟨A3,c3,rfl,hown,hb3⟩
 go_wp2_with fail
 refine(finderIn_any A3 n c3 _).mono ?_
 rintro e w4 ⟨rfl,rfl⟩
 have hal:Below w3.heap.size w3 (w3.alloc (.cells #[.slice A3 n c3] 47)):=(Below.refl _ _).alloc (Nat.le_refl _) _
 have hbox:(w3.alloc (.cells #[.slice A3 n c3] 47)).cell? ⟨w3.heap.size,0,none⟩=some (.slice A3 n c3):=(cell_blk (heap_alloc_new w3 _)).trans rfl
 have hb4:Below w2.heap.size w2 (w3.alloc (.cells #[.slice A3 n c3] 47)):=hb3.trans (hal.mono hb3.size)
 have hown4:=own_behind hown hal
 have hne:(Value.slice A3 n c3).ownBlock≠some w3.heap.size:=fun e=>by have:=(own_block hown e).2.1;omega
 have hs1:Rs spc 5 w2 w2.heap.size Av n1 cv ls:=by
  have:=HT.out.o2
  rw[HKL.out] at this
  exact Rs.of_own spc_len (by decide) this
 have hs2:Rs spc 5 w2 w2.heap.size Au n2 cu es:=by
  have:=HT.out.o3
  rw[HKE.out] at this
  exact Rs.of_own spc_len (by decide) this
 have ht1:=H1.out.at_size (Nat.le_refl _) hb2
 have ht2:=H2.out.at_size (Nat.le_refl _) hb2
 replace hs1:=hs1.below hb4
 replace hs2:=hs2.below hb4
 replace ht1:=ht1.below hb4
 replace ht2:=ht2.below hb4
 have hsz4:=hb4.size
 have hbx:=World.block_lt_of_cell? (w3.alloc (.cells #[.slice A3 n c3] 47)) ⟨w3.heap.size,0,none⟩ hbox
 generalize w3.alloc (.cells #[.slice A3 n c3] 47)=w4 at*
 generalize w3.heap.size=bx at*
 go_wp2_with fail
 refine(fill_any bx w2.heap.size w2.heap.size A3 Av A1 n c3 n1 cv c1 l ls ts w4 hbox hne hown4 hs1 ht1 (Nat.le_refl _) hsz4 (by rw[← HLN.out];exact HLI.out)).mono ?_
 rintro e w5 ⟨rfl,hown5,hk5⟩
 have hlow5: ∀k,k < w2.heap.size→w5.heap[k]?=w4.heap[k]?:=fun k h=>hk5.block k (by omega) fun e=>by have:=(own_block hown4 e).1;omega
 have hbox5:=(hk5.cell (p:=⟨bx,0,none⟩) hbx hne).trans hbox
 go_wp2_with fail
 refine(fill_any bx w2.heap.size w2.heap.size A3 Au A2 n c3 n2 cu c2 _ es us w5 hbox5 hne hown5 (hs2.keep hlow5) (ht2.keep hlow5) (Nat.le_refl _) (Nat.le_trans hsz4 hk5.size) (by rw[← HLN.out];exact HEI.out)).mono ?_
 rintro e w6 ⟨rfl,hown6,hk6⟩
 have hb5:Below w2.heap.size w4 w5:=hk5.below hsz4 fun b e=>(own_block hown4 e).1
 have hb6:Below w2.heap.size w5 w6:=hk6.below (Nat.le_trans hsz4 hk5.size) fun b e=>(own_block hown4 e).1
 have hbe:=hb2.trans (((hb4.trans hb5).trans hb6).mono hb2.size)
 have hfin:w6.ownsRow w.heap.size 116 10 (.slice A3 n c3) n ((putV l ts us).flatMap ndc):=by
  rw[HQ.out.2, ← HPF.out ts us HL1.out HL2.out]
  refine⟨hown6.1,?_⟩
  rcases hown6.2 with h|⟨g,cap,cur,hv,hg,r⟩
  ·exact .inl h
  ·exact .inr ⟨g,cap,cur,hv,Nat.le_trans hb2.size hg,r⟩
 go_wp2
 exact bodyPost_ret (v:= .tuple #[.slice A3 n c3,.int .i64 0]) (by simp[results,Tryz.results20,go_sem]) rfl ⟨A3,n,c3,by rw[HQ.out.1];rfl,hfin,hbe⟩
end Go.Proofs.YtmejhedegmjboaaGreat
namespace Go.Proofs.YtmejhedegmjboaaGreat
open Go.RowKit
theorem tmc_one (l:List Tm): ∀u∈l.flatMap tmc,u.oneCell'=true:=by
 intro u hu
 obtain⟨x,_,hx⟩:=List.mem_flatMap.1 hu
 simp only[tmc,List.mem_cons,List.not_mem_nil,or_false] at hx
 rcases hx with rfl|rfl <;> rfl
theorem tm_inf:(Tryz.prog.info? 62).map (fun i=>(i.zero,i.size,i.bytes))=some (some (.agg #[.bool false,.int .u64 0]),2,16):=by kernel_rfl
theorem wpList_append_rs {α:Type}{enc:α→List Value}{sz bytes:Nat}{t E:TypeId}{z:Value}(he: ∀x,(enc x).length=sz)(hsz:0 < sz)(h1: ∀l:List α,∀u∈l.flatMap enc,u.oneCell'=true)(ht:Tryz.prog.underlying t=some (.slice E))(hinf:(Tryz.prog.info? E).map (fun i=>(i.zero,i.size,i.bytes))=some (some z,sz,bytes))(hzs:z.cells.size=sz)(hby:bytes≤1000)
  {w:World} {ops:Array Oper} {rest:List Oper} {o:Oper} {a:Act} {Q:Exit→Act→World→Prop} (hgd:o.guard=none) (s x:Operand)
  (ho:o.op= .call {callee:= .builtin .append,args:= #[s,x],argTypes:= #[t,t]})
  (base:Nat) (v:Value) (n:Nat) (vs:List α) (hs:a.eval s=v) (hown:w.ownsRow base E sz v n (vs.flatMap enc)) (B:Nat) (A:Option Addr) (m c:Nat) (ms:List α) (hx:a.eval x= .slice A m c) (hr:Rs enc sz w B A m c ms)
  (hsm:n+m≤100000) (hbase:base≤w.heap.size)
  (h: ∀A' k c' w',Hid (k=n+m)→Hid (Appended w w' base E sz v (.slice A' k c') k ((vs++ms).flatMap enc))→wpList Tryz.prog ops Q rest (a.put o.dst (.slice A' k c')) w'):wpList Tryz.prog ops Q (o::rest) a w:=by
 obtain⟨i0,hi0,hz0,hz1,hz2⟩:=info_parts hinf
 have key: ∃v' w',(Builtin.append_ #[t,t] o.type #[v,.slice A m c]).run Tryz.prog w= .ok v' w'∧Appended w w' base E sz v v' (n+m) ((vs++ms).flatMap enc):=by
  rcases A with _|ad
  ·have hc0:=hr.none0 rfl
   have hm0:m=0:=by have:=hr.cap;omega
   subst hc0
   subst hm0
   have hms:ms= []:=List.eq_nil_of_length_eq_zero hr.len
   subst hms
   exact⟨v,w,run_append_owned_none (P:=Tryz.prog) w base t o.type E i0 sz ht hi0 v n _ hown,⟨by simpa using hown,⟨rfl,rfl,rfl,Nat.le_refl _,fun _ _ _=>rfl⟩,.inl rfl⟩⟩
  ·have hcells: ∀j y,(ms.flatMap enc)[j]?=some y→w.cell? (ad.add j)=some y:=by
    rcases Nat.eq_zero_or_pos m with h0|h0
    ·have hms:ms= []:=List.eq_nil_of_length_eq_zero (by rw[hr.len,h0])
     subst hms
     intro j u hu
     simp at hu
    ·obtain⟨b,q,hA,_,hc⟩:=hr.spot h0
     injection hA with hA
     subst hA
     exact Rs.cells he hsz hc
   have hbb:(n+m)*bytes≤140737488355328:=Nat.le_trans (Nat.mul_le_mul hsm hby) (by omega)
   have:=run_append_both (P:=Tryz.prog) w base t t o.type E i0 _ sz bytes ht hi0 hz0 hz1 hz2 hzs hsz v n _ hown ad m c (ms.flatMap enc) (by rw[flat_len he,hr.len]) hcells (h1 ms) (by unfold maxLen;omega) hbb hbase rfl
   rw[← List.flatMap_append] at this
   exact this
 obtain⟨v',w',hrun,h2⟩:=key
 obtain⟨A',c',rfl⟩:=rs_own_form h2.own
 refine wpList_plain hgd fun K hK=> ?_
 unfold Oper.wp execOp
 simp only[ho,resolve,invoke,builtin,Sem.run_bind,Sem.run_pure,Result.andThen_ok,List.map_toArray,List.map_cons,List.map_nil,hs,hx,hrun]
 exact hK _ _ (h A' (n+m) c' w' rfl h2)
def LfRel (n:Nat)(w:World)(i5:Value)(wr:World):Prop:= ∃k q:Nat,i5= .int .i64 (k:Int)∧k≤n∧wr=w.drewN q
end Go.Proofs.YtmejhedegmjboaaGreat
namespace Go.Proofs.YtmejhedegmjboaaGreat
open Go.RowKit
theorem Alks.fits: ∀{a b:List Nd},Alks a b→(∀x∈a,x.Fits)→ ∀y∈b,y.Fits
 |_,_,.nil,_=>by simp
 |_,_,.cons (x:=x) (y:=y) h t,hf=>by
  refine fits_cons ?_ (t.fits fun z hz=>hf z (List.mem_cons_of_mem _ hz))
  have g:=hf x List.mem_cons_self
  exact⟨h.k▸g.k0,h.k▸g.k1,h.m▸g.m0,h.m▸g.m1,h.n▸g.n0,h.n▸g.n1,h.s▸g.s1⟩
theorem fits_putB {l:List Nd}(ts us:List Tm)(h: ∀x∈l,x.Fits): ∀y∈putB l ts us,y.Fits:=(alks_putB l ts us).fits h
theorem of_lit (A:Option Addr)(m c:Nat)(l:List Nd)(ls es:List Sp)(w:World)(hr:Ns w w.heap.size A m c l)(hf: ∀x∈l,x.Fits)(e1:labB l=ls)(e2:effB l=es):
  Calls Tryz.prog 45 #[.slice A m c] w fun e w'=> ∃A1 n1 c1 A2 n2 c2,e= .returned (.tuple #[.slice A1 n1 c1,.slice A2 n2 c2])∧w'.ownsRow w.heap.size 67 5 (.slice A1 n1 c1) n1 (ls.flatMap spc)∧w'.ownsRow w.heap.size 67 5 (.slice A2 n2 c2) n2 (es.flatMap spc)∧
   (∀q,(Value.slice A1 n1 c1).ownBlock=some q→(Value.slice A2 n2 c2).ownBlock≠some q)∧Below w.heap.size w w':=by
 have:=of_any A m c l w hr hf
 rw[e1,e2] at this
 refine this.mono ?_
 rintro e w' ⟨v,u,rfl,h⟩
 obtain⟨A1,c1,rfl⟩:=rs_own_form h.o2
 obtain⟨A2,c2,rfl⟩:=rs_own_form h.o3
 exact⟨A1,_,c1,A2,_,c2,rfl,h.o2,h.o3,h.ap,h.bel⟩
end Go.Proofs.YtmejhedegmjboaaGreat
namespace Go.Proofs.YtmejhedegmjboaaGreat
open Go.RowKit
structure Two2 (w w':World)(A1:Option Addr)(n1 c1:Nat)(ls:List Sp)(A2:Option Addr)(n2 c2:Nat)(es:List Sp):Prop where
 o1:w'.ownsRow w.heap.size 67 5 (.slice A1 n1 c1) n1 (ls.flatMap spc)
 o2:w'.ownsRow w.heap.size 67 5 (.slice A2 n2 c2) n2 (es.flatMap spc)
 ap: ∀q,(Value.slice A1 n1 c1).ownBlock=some q→(Value.slice A2 n2 c2).ownBlock≠some q
 bel:Below w.heap.size w w'
theorem Two2.r1 {w w':World}{A1 A2:Option Addr}{n1 c1 n2 c2:Nat}{ls es:List Sp}(h:Two2 w w' A1 n1 c1 ls A2 n2 c2 es):Rs spc 5 w' w'.heap.size A1 n1 c1 ls:=Rs.of_own spc_len (by decide) h.o1
theorem Two2.r2 {w w':World}{A1 A2:Option Addr}{n1 c1 n2 c2:Nat}{ls es:List Sp}(h:Two2 w w' A1 n1 c1 ls A2 n2 c2 es):Rs spc 5 w' w'.heap.size A2 n2 c2 es:=Rs.of_own spc_len (by decide) h.o2
theorem of_len (A:Option Addr)(m c:Nat)(l:List Nd)(ls es:List Sp)(kl ke:Nat)(w:World)(hr:Ns w w.heap.size A m c l)(hf: ∀x∈l,x.Fits)(e1:labB l=ls)(e2:effB l=es)(e3:ls.length=kl)(e4:es.length=ke):
  Calls Tryz.prog 45 #[.slice A m c] w fun e w'=> ∃A1 c1 A2 c2,e= .returned (.tuple #[.slice A1 kl c1,.slice A2 ke c2])∧Two2 w w' A1 kl c1 ls A2 ke c2 es:=by
 refine(of_lit A m c l ls es w hr hf e1 e2).mono ?_
 rintro e w1 ⟨Av,nv,cv,Au,nu,cu,rfl,ov,ou,ap,hb⟩
 have e1:=rs_own_len spc_len (by decide) ov
 have e2:=rs_own_len spc_len (by decide) ou
 rw[e3] at e1
 rw[e4] at e2
 subst e1
 subst e2
 exact⟨Av,cv,Au,cu,rfl,ov,ou,ap,hb⟩
end Go.Proofs.YtmejhedegmjboaaGreat
