/- What unders and between tell: which variable is under which. Condition: the sense can be read. -/
import Derived.Test.YtmejhedegmjboaaGreatPaS
namespace Go.Proofs.YtmejhedegmjboaaGreat.I
open Go.RowKit PaC
theorem sl_inf:(Tryz.prog.info? 71).map (fun i=>(i.zero,i.size,i.bytes))=some (some (.slice none 0 0),1,24):=by kernel_rfl
theorem make_sl (n:Nat)(h:n≤60000)(W:World):(Instr.makeSlice 26 (.int .i64 (n:Int)) (.int .i64 (n:Int))).run Tryz.prog W= .ok (.slice (some ⟨W.heap.size,0,none⟩) n n) (W.alloc (.cells (Array.replicate n (Value.slice none 0 0)) 71)):=by
 obtain⟨i0,hi0,hz0,hz1,hz2⟩:=info_parts sl_inf
 have:=run_make (P:=Tryz.prog) W 26 71 i0 _ Tryz.underlying26 hi0 hz0 .i64 .i64 n n (by omega) (Int.le_refl _) (by rw[hz2];omega) (by omega)
 rw[this,hz1,Nat.mul_one,Int.toNat_natCast]
 rw[show(Value.slice none 0 0).cells= #[.slice none 0 0] from rfl,show madeCells #[.slice none 0 0] n=Array.replicate n (Value.slice none 0 0) from ?_]
 apply Array.ext
 ·simp[madeCells]
 ·intro i h1 h2
  simp[madeCells,Nat.mod_one]
def undM (S:Bo.Sr)(z:Sen)(dz uz:Option Nat):Bool:=match dz,uz with
 |some d,some u=>bb z d u && !S.below (hg z d) (lw z u)
 |_,_=>false
theorem undB_eq (S:Bo.Sr)(z:Sen)(v w:Nat):undB S z v w=(!decide (v=w) && undM S z ((cfg S z).out v) ((cfg S z).inn w)):=by
 unfold undB undM
 cases (cfg S z).out v <;> cases (cfg S z).inn w <;> rfl
noncomputable def undI (S:Bo.Sr) (z:Sen) (v j:Nat):List Bool:=(List.range j).map (undB S z v)
theorem undI_next (S:Bo.Sr)(z:Sen)(v j:Nat):undI S z v (j+1)=undI S z v j++ [undB S z v j]:=by
 unfold undI
 rw[List.range_succ,List.map_append]
 rfl
theorem undI_len (S:Bo.Sr)(z:Sen)(v j:Nat):(undI S z v j).length=j:=by simp[undI]
def RowD (S:Bo.Sr)(z:Sen)(base tn:Nat)(us:List Value)(W:World)(k:Nat)(cur:Value):Prop:=
 ∃b c,us[k]?=some (.slice (some ⟨b,0,none⟩) tn c)∧base≤b∧b < W.heap.size∧cur.ownBlock≠some b∧ ∀j < tn,W.cell? ⟨b,j,none⟩=some (.bool (undB S z k j))
structure UnI (S:Bo.Sr)(z:Sen)(w3:World)(go tn v j:Nat)(A:Option Addr)(N c:Nat)(us:List Value)(W:World):Prop where
 g:W.heap[go]?=some (.cells us.toArray 71 (0,0))
 len:us.length=tn
 done: ∀k < v,RowD S z w3.heap.size tn us W k (.slice A N c)
 cur:v < tn→us[v]?=some (.slice A N c)
 own:W.ownsRow w3.heap.size 4 1 (.slice A N c) N ((undI S z v j).flatMap enB)
 rest: ∀k,v < k→k < tn→us[k]?=some (.slice none 0 0)
 b:Kept (· =go) w3 W
 lt:go < w3.heap.size
section
variable {S:Bo.Sr} {z:Sen} {w3:World} {go tn v j:Nat} {A:Option Addr} {N c:Nat} {us:List Value} {W W':World}
theorem UnI.behind (h:UnI S z w3 go tn v j A N c us W)(hb:Below W.heap.size W W'):UnI S z w3 go tn v j A N c us W':=
 ⟨(hb.block _ (lt_blk h.g)).trans h.g,h.len,fun k hk=>by
  obtain⟨b,c',e1,e2,e3,e4,e5⟩:=h.done k hk
  exact⟨b,c',e1,e2,Nat.lt_of_lt_of_le e3 hb.size,e4,fun j hj=>cell_old (e5 j hj) hb⟩,h.cur,own_behind h.own hb,h.rest,h.b.trans (Kept.of_below hb),h.lt⟩
theorem UnI.add (h:UnI S z w3 go tn v j A N c us W)(hv:v < tn){A':Option Addr}{N' c':Nat}(ha:Appended W W' w3.heap.size 4 1 (.slice A N c) (.slice A' N' c') N' ((undI S z v j++ [undB S z v j]).flatMap enB)):
  W'.cell? ⟨go,v,none⟩=some (.slice A N c)∧W'.frozen? ⟨go,v,none⟩=false∧UnI S z w3 go tn v (j+1) A' N' c' (us.set v (.slice A' N' c')) (W'.setCell ⟨go,v,none⟩ (.slice A' N' c')):=by
 have hb:Below w3.heap.size W W':=(Below.refl _ _).grown ha.grown h.b.size fun q hq=>(h.own.lt q hq).1
 have hg:=(hb.block go h.lt).trans h.g
 have off: ∀b,b≠go→(W'.setCell ⟨go,v,none⟩ (.slice A' N' c')).heap[b]?=W'.heap[b]?:=fun b hb=>Below.heap_setCell _ ⟨go,v,none⟩ _ b hb
 refine⟨?_,frozen_blk hg,⟨?_,by rw[List.length_set];exact h.len,fun k hk=> ?_,fun _=> ?_,?_,fun k h1 h2=> ?_,?_,h.lt⟩⟩
 ·rw[cell_blk hg]
  simp only[List.getElem?_toArray]
  exact h.cur hv
 ·rw[set_blk hg,List.setIfInBounds_toArray]
 ·obtain⟨b,c0,e1,e2,e3,e4,e5⟩:=h.done k hk
  have hw:W'.heap[b]?=W.heap[b]?:=ha.grown.block b e3 fun e=>e4 e.symm
  have hne:b≠go:=by have:=h.lt;omega
  refine⟨b,c0,?_,e2,Nat.lt_of_lt_of_le e3 (by rw[World.size_setCell];exact ha.grown.size),ha.apart e3 e4,fun j hj=> ?_⟩
  ·rw[List.getElem?_set_ne (by omega)]
   exact e1
  ·exact(World.cell?_of_block (a:=⟨b,j,none⟩) ((off b hne).trans hw)).trans (e5 j hj)
 ·rw[List.getElem?_set_self (by rw[h.len];exact hv)]
 ·rw[undI_next]
  exact own_same ha.own fun q hq=>off q (by
   have:=(ha.own.lt q hq).1
   have:=h.lt
   omega)
 ·rw[List.getElem?_set_ne (by omega)]
  exact h.rest k h1 h2
 ·exact(Kept.then_below h.b hb).setCell (p:=⟨go,v,none⟩) (.inl rfl) _
theorem UnI.next (h:UnI S z w3 go tn v tn A N c us W)(hv:v < tn):UnI S z w3 go tn (v+1) 0 none 0 0 us W:=by
 have hN:N=tn:=by
  have:=rs_own_len enB_len (by decide) h.own
  rw[undI_len] at this
  exact this.symm
 have hrd:=own_rdB h.own
 obtain⟨b,o,e,hb,hc⟩:=hrd.spot (by omega)
 subst e
 have ho:o=0:=by
  rcases h.own.2 with⟨h0,-⟩|⟨g,cap,cur,hv',-⟩
  ·cases h0
  ·injection hv' with h1
   injection h1 with h1
   injection h1 with h1 h2
 subst ho
 subst hN
 refine⟨h.g,h.len,fun k hk=> ?_,fun h1=>h.rest (v+1) (Nat.lt_succ_self _) h1,World.ownsRow_nil _ _ _ _,fun k h1 h2=>h.rest k (by omega) h2,h.b,h.lt⟩
 by_cases e:k=v
 ·subst e
  refine⟨b,c,h.cur hv,(row_at h.own).1,hb,(fun e=>by cases e),fun j hj=> ?_⟩
  have:=hc j (by rw[undI_len];exact hj)
  rw[Nat.zero_add] at this
  rw[this]
  simp[undI]
 ·obtain⟨b',c',e1,e2,e3,e4,e5⟩:=h.done k (by omega)
  exact⟨b',c',e1,e2,e3,(fun e=>by cases e),e5⟩
end
structure UnR (w:World)(g d u:Nat)(n2 c2 n3 c3 b4 o4 n4 c4 b3 o3 b2 o2 bd od yd n1 x y:Nat)(r:Bool):Prop where
 a1:w.cell? ⟨g,1,none⟩=some (.slice (some ⟨b2,o2,none⟩) n2 c2)
 a2:w.cell? ⟨g,2,none⟩=some (.slice (some ⟨b3,o3,none⟩) n3 c3)
 a3:w.cell? ⟨g,3,none⟩=some (.slice (some ⟨b4,o4,none⟩) n4 c4)
 rd:w.cell? ⟨b4,o4+d,none⟩=some (.slice (some ⟨bd,od,none⟩) n1 yd)
 ru:w.cell? ⟨bd,od+u,none⟩=some (.bool r)
 xd:w.cell? ⟨b3,o3+d,none⟩=some (.int .u64 (x:Int))
 xu:w.cell? ⟨b2,o2+u,none⟩=some (.int .u64 (y:Int))
noncomputable def outL (S:Bo.Sr) (z:Sen) (n:Nat):List Int:=seatI S z 0 n (lim z)
noncomputable def innL (S:Bo.Sr) (z:Sen) (n:Nat):List Int:=seatI S z 1 n (lim z)
theorem out_at {S:Bo.Sr}{z:Sen}(hw:wholeS z=true){n v:Nat}(h:v < n):(outL S z n)[v]'(by rw[outL,seatI_len];exact h)=optZ ((cfg S z).out v):=by
 simp only[outL,seatI,List.getElem_map,List.getElem_range,Cfg.out,lim_eq hw]
 rfl
theorem inn_at {S:Bo.Sr}{z:Sen}(hw:wholeS z=true){n v:Nat}(h:v < n):(innL S z n)[v]'(by rw[innL,seatI_len];exact h)=optZ ((cfg S z).inn v):=by
 simp only[innL,seatI,List.getElem_map,List.getElem_range,Cfg.inn,lim_eq hw]
 rfl
theorem trmN_whole {S:Bo.Sr}{z:Sen}{v:Nat}(h:v < trmN S z):wholeS z=true:=by
 unfold trmN at h
 split at h
 ·rename_i e;exact e
 ·omega
set_option maxRecDepth 100000 in
set_option maxHeartbeats 16000000 in
theorem unders_any (v:Value)(S:Bo.Sr)(z:Sen)(A1:Option Addr)(n1 c1:Nat)(A2:Option Addr)(n2 c2:Nat)(A3:Option Addr)(n3 c3:Nat)(A4:Option Addr)(n4 c4:Nat)(g1 g2:Nat)(w:World)(hs:Bo.SrtIn w v S)(h:SenAt w z A1 n1 c1 A2 n2 c2 A3 n3 c3 A4 n4 c4)(hn:n1≤400)(hh:w.heap[g1]?=some (.cells (zcl (outL S z (trmN S z))) 3 (0,0)))(hl:w.heap[g2]?=some (.cells (zcl (innL S z (trmN S z))) 3 (0,0))):
  Calls Tryz.prog 33 #[v,senV A1 n1 c1 A2 n2 c2 A3 n3 c3 A4 n4 c4,.slice (some ⟨g1,0,none⟩) (trmN S z) (trmN S z),.slice (some ⟨g2,0,none⟩) (trmN S z) (trmN S z)] w fun e w'=> ∃(go:Nat) (us:List Value) (w3:World),e= .returned (.slice (some ⟨go,0,none⟩) (trmN S z) (trmN S z))∧UnI S z w3 go (trmN S z) (trmN S z) 0 none 0 0 us w'∧Below w.heap.size w w':=by
 have hb0:Below w.heap.size w (w.alloc (.cells #[.slice A1 n1 c1,.slice A2 n2 c2,.slice A3 n3 c3,.slice A4 n4 c4] 28)):=(Below.refl _ _).alloc (Nat.le_refl _) _
 have hz:=ZB.of (heap_alloc_new w (.cells #[.slice A1 n1 c1,.slice A2 n2 c2,.slice A3 n3 c3,.slice A4 n4 c4] 28))
 have HTN:Hid (trmN S z≤400):=Lib.hid (by
  rw[← trm_end.2]
  have:=cnt_le (cfg S z) (lim z)
  have h1:=h.rp.len
  have:lim z≤z.p.length:=by unfold lim;split <;> omega
  omega)
 have HWH:Hid (∀v,v < trmN S z→wholeS z=true):=Lib.hid fun v hv=>trmN_whole hv
 have HSP:Hid (∀v d,wholeS z=true→((cfg S z).out v=some d∨(cfg S z).inn v=some d)→d < n1):=Lib.hid fun v d hw e=>by
  have h1:=h.rp.len
  have h2:d < z.p.length:=e.elim (fun e=>(out_is e).1) fun e=>(inn_is e).1
  omega
 have HN400:=Lib.hid hn
 obtain⟨tn,htn⟩: ∃x,trmN S z=x:=⟨_,rfl⟩
 rw[htn] at hh hl HTN HWH ⊢
 obtain⟨w1,hw1⟩: ∃w1,w.alloc (.cells #[.slice A1 n1 c1,.slice A2 n2 c2,.slice A3 n3 c3,.slice A4 n4 c4] 28)=w1:=⟨_,rfl⟩
 rw[hw1] at hb0 hz
 have HB0:=Lib.hid hb0
 have HMK:Hid (∀W,(Instr.makeSlice 26 (.int .i64 (tn:Int)) (.int .i64 (tn:Int))).run Tryz.prog W= .ok (.slice (some ⟨W.heap.size,0,none⟩) tn tn) (W.alloc (.cells (Array.replicate tn (Value.slice none 0 0)) 71))):=Lib.hid fun W=>make_sl tn (by have:=HTN.out;omega) W
 have hmk:=HMK.out
 obtain⟨w3,hw3⟩: ∃w3,w1.alloc (.cells (Array.replicate tn (Value.slice none 0 0)) 71)=w3:=⟨_,rfl⟩
 have b3:Below w1.heap.size w1 w3:=hw3▸(Below.refl _ _).alloc (Nat.le_refl _) _
 have hk3:w3.heap[w1.heap.size]?=some (.cells (Array.replicate tn (Value.slice none 0 0)) 71 (0,0)):=hw3▸heap_alloc_new w1 _
 have HU0:Hid (UnI S z w3 w1.heap.size tn 0 0 none 0 0 (List.replicate tn (Value.slice none 0 0)) w3):=Lib.hid ⟨by rw[hk3,show(List.replicate tn (Value.slice none 0 0)).toArray=Array.replicate tn (Value.slice none 0 0) by simp],List.length_replicate,fun k hk=>absurd hk (Nat.not_lt_zero k),fun h=>by rw[List.getElem?_replicate,if_pos h],World.ownsRow_nil _ _ _ _,fun k h1 h2=>by rw[List.getElem?_replicate,if_pos h2],Kept.refl _ _,lt_blk hk3⟩
 have b03:=hb0.trans (b3.mono hb0.size)
 have HB3:=Lib.hid b03
 have HSEN:=Lib.hid h
 have HSRT:Hid (∀W,Below w.heap.size w W→Bo.SrtIn W v S):=Lib.hid fun W hW=>hs.keep hW
 have HZ:=Lib.hid (hz.keep b3)
 have HH3:=Lib.hid ((b03.block g1 (lt_blk hh)).trans hh)
 have HL3:=Lib.hid ((b03.block g2 (lt_blk hl)).trans hl)
 have HNE:Hid (g1≠w1.heap.size∧g2≠w1.heap.size∧w.heap.size≠w1.heap.size∧w.heap.size≤w1.heap.size):=Lib.hid (by
  have h1:=lt_blk hh
  have h2:=lt_blk hl
  have h3:=World.block_lt_of_cell? w1 ⟨w.heap.size,0,none⟩ hz.p0
  replace h3:w.heap.size < w1.heap.size:=h3
  omega)
 unfold senV
 clear hb0 hz hs h hh hl b3 hk3 b03 htn hn HMK
 go_enter Tryz.func33,Tryz.ntmps33
 go_wp2_with fail
 clear hw1 hw3 hmk
 obtain⟨go,hgo⟩: ∃b,w1.heap.size=b:=⟨_,rfl⟩
 rw[hgo] at HU0 HNE
 simp only[hgo]
 clear hgo
 go_loopw [20] (fun v20 wr=> ∃(k:Nat) (us:List Value),v20= .int .i64 (k:Int)∧k≤tn∧UnI S z w3 go tn k 0 none 0 0 us wr) (fun v20 _=>tn - (intOf v20).toNat)
 case atStart=>exact⟨0,_,rfl,Nat.zero_le _,HU0.out⟩
 case round=>
  clear HU0
  obtain⟨k,us,rfl,hk,hI⟩:=hrel
  by_cases hlt:k < tn
  ·have hw:=HWH.out k hlt
   have HW:=Lib.hid hw
   have HLT:=Lib.hid hlt
   have d0:=(cell_blk (i:=k) ((hI.b.block g1 (lt_blk HH3.out) HNE.out.1).trans HH3.out)).trans (zcl_at (by rw[outL,seatI_len];exact hlt))
   rw[out_at hw hlt] at d0
   have HI0:=Lib.hid hI
   have hin:(k:Int) < (tn:Int):=by omega
   have hk9:k≤60000:=by have:=HTN.out;omega
   obtain⟨dz,hdz⟩: ∃x,(cfg S z).out k=x:=⟨_,rfl⟩
   rw[hdz] at d0
   have HDZ:=Lib.hid hdz
   obtain⟨dv,hdv⟩: ∃x,optZ dz=x:=⟨_,rfl⟩
   rw[hdv] at d0
   have HDV:=Lib.hid hdv
   clear hk hlt hw hI hdz hdv
   go_wp2_with fail
   clear d0
   obtain⟨wo,rfl⟩: ∃wo,wo=wr:=⟨_,rfl⟩
   go_loopw [27] (fun v27 wq=> ∃(j:Nat) (A:Option Addr) (N c:Nat) (us':List Value),v27= .int .i64 (j:Int)∧j≤tn∧UnI S z w3 go tn k j A N c us' wq) (fun v27 _=>tn - (intOf v27).toNat)
   case atStart=>exact⟨0,none,0,0,us,rfl,Nat.zero_le _,HI0.out⟩
   case round=>
    clear HI0
    obtain⟨j,A,N,c,us',rfl,hj,hI⟩:=hrel
    have HI:=Lib.hid hI
    by_cases hltj:j < tn
    ·have d1:=(cell_blk (i:=j) ((hI.b.block g2 (lt_blk HL3.out) HNE.out.2.1).trans HL3.out)).trans (zcl_at (by rw[innL,seatI_len];exact hltj))
     rw[inn_at HW.out hltj] at d1
     have HLTJ:=Lib.hid hltj
     have hinj:(j:Int) < (tn:Int):=by omega
     have hj9:j≤60000:=by have:=HTN.out;omega
     obtain⟨uz,huz⟩: ∃x,(cfg S z).inn j=x:=⟨_,rfl⟩
     rw[huz] at d1
     have HUZ:=Lib.hid huz
     obtain⟨uv,huv⟩: ∃x,optZ uz=x:=⟨_,rfl⟩
     rw[huv] at d1
     have HUV:=Lib.hid huv
     have hN1:N+1≤100000:=by
      have h1:=rs_own_len enB_len (by decide) hI.own
      rw[undI_len] at h1
      have:=HTN.out
      omega
     have HUND:Hid (undB S z k j=(!decide (k=j) && undM S z dz uz)):=Lib.hid (by rw[undB_eq,HDZ.out,huz])
     clear hj hI hltj huz huv
     go_wp2_with fail
     clear d1
     by_cases hkj:k=j
     ·have g1':((k:Int) !=(j:Int))=false:=by subst hkj;simp
      have HR:Hid (undB S z k j=false):=Lib.hid (by rw[HUND.out,decide_eq_true hkj];rfl)
      clear hkj
      refine wp_region_ord [0,1,2,3,4,5,6,7,8,9,10,11,12,13,14,15,16,17,18,19,20,21,22,23,24,25,26,27,28,29,30,31,32,33,34,35,36] [33] 37 (fun _=>True) (by kernel_rfl) (by kernel_rfl) (by kernel_rfl) (by kernel_rfl) (fun _ _ _ _ _ h=>h) trivial ?_
      simp only[steps,List.getElem?_cons_zero,List.getElem?_cons_succ]
      repeat(first
       |(refine ord_no rfl ?_;simp only[Act.put,List.setIfInBounds_toArray,List.set_cons_zero,List.set_cons_succ])
       |(refine ord_yes (v:= ?_) rfl rfl ?_ ?_;rotate_left;(focus(rintro w' -;go_simp;try with_reducible rfl));simp only[Act.put,List.setIfInBounds_toArray,List.set_cons_zero,List.set_cons_succ]))
      have HIX:=Lib.hid (HI.out.behind ((Below.refl wr.heap.size wr).drew))
      generalize World.drew _=wd at*
      refine ord_end ?_
      have HO:=Lib.hid (one_b wd false)
      have HAL:=Lib.hid (show Below wd.heap.size wd (wd.alloc (.cells #[.bool false] 4)) from(Below.refl _ _).alloc (Nat.le_refl _) _)
      have HIA:=Lib.hid (HIX.out.behind HAL.out)
      have y9:wd.cell? ⟨go,k,none⟩=some (.slice A N c):=by
       rw[cell_blk HIX.out.g]
       simp only[List.getElem?_toArray]
       exact HIX.out.cur HLT.out
      have HADD:Hid (∀(w':World) (A':Option Addr) (N' c':Nat),Appended (wd.alloc (.cells #[.bool false] 4)) w' w3.heap.size 4 1 (.slice A N c) (.slice A' N' c') N' ((undI S z k j++ [false]).flatMap enB)→w'.cell? ⟨go,k,none⟩=some (.slice A N c)∧w'.frozen? ⟨go,k,none⟩=false∧UnI S z w3 go tn k (j+1) A' N' c' (us'.set k (.slice A' N' c')) (w'.setCell ⟨go,k,none⟩ (.slice A' N' c'))):=Lib.hid fun w' A' N' c' ha=>by
       exact HIA.out.add HLT.out (by rw[HR.out];exact ha)
      have hsz2:w3.heap.size≤(wd.alloc (.cells #[.bool false] 4)).heap.size:=HIA.out.b.size
      go_wp2_with (at_builtin;refine wpList_append_rs enB_len (by decide) enB_one Tryz.underlying71 enB_inf rfl (by decide) rfl (.tmp 73) (.tmp 75) rfl w3.heap.size _ N _ rfl HIA.out.own _ _ 1 1 [false] rfl HO.out hN1 hsz2 ?_;intro A' k' c' w' HK HA;have d8:=(HADD.out w' A' k' c' HA.out).1;have q8:=(HADD.out w' A' k' c' HA.out).2.1)
      go_roundw
      case rel=>exact⟨j+1,A',k',c',_,by go_num,HLTJ.out,(HADD.out w' A' k' c' HA.out).2.2⟩
      case measure=>
       have:=HLTJ.out
       simp[intOf]
       omega
     ·have g1':((k:Int) !=(j:Int))=true:=by simp;omega
      cases dz with
      |none=>
       have hd1:dv= -1:=HDV.out.symm
       subst hd1
       have HR:Hid (undB S z k j=false):=Lib.hid (by rw[HUND.out];simp[undM])
       clear hkj
       refine wp_region_ord [0,1,2,3,4,5,6,7,8,9,10,11,12,13,14,15,16,17,18,19,20,21,22,23,24,25,26,27,28,29,30,31,32,33,34,35,36] [33] 37 (fun _=>True) (by kernel_rfl) (by kernel_rfl) (by kernel_rfl) (by kernel_rfl) (fun _ _ _ _ _ h=>h) trivial ?_
       simp only[steps,List.getElem?_cons_zero,List.getElem?_cons_succ]
       repeat(first
        |(refine ord_no rfl ?_;simp only[Act.put,List.setIfInBounds_toArray,List.set_cons_zero,List.set_cons_succ])
        |(refine ord_yes (v:= ?_) rfl rfl ?_ ?_;rotate_left;(focus(rintro w' -;go_simp;try with_reducible rfl));simp only[Act.put,List.setIfInBounds_toArray,List.set_cons_zero,List.set_cons_succ]))
       have HIX:=Lib.hid (HI.out.behind ((Below.refl wr.heap.size wr).drew))
       generalize World.drew _=wd at*
       refine ord_end ?_
       have HO:=Lib.hid (one_b wd false)
       have HAL:=Lib.hid (show Below wd.heap.size wd (wd.alloc (.cells #[.bool false] 4)) from(Below.refl _ _).alloc (Nat.le_refl _) _)
       have HIA:=Lib.hid (HIX.out.behind HAL.out)
       have y9:wd.cell? ⟨go,k,none⟩=some (.slice A N c):=by
        rw[cell_blk HIX.out.g]
        simp only[List.getElem?_toArray]
        exact HIX.out.cur HLT.out
       have HADD:Hid (∀(w':World) (A':Option Addr) (N' c':Nat),Appended (wd.alloc (.cells #[.bool false] 4)) w' w3.heap.size 4 1 (.slice A N c) (.slice A' N' c') N' ((undI S z k j++ [false]).flatMap enB)→w'.cell? ⟨go,k,none⟩=some (.slice A N c)∧w'.frozen? ⟨go,k,none⟩=false∧UnI S z w3 go tn k (j+1) A' N' c' (us'.set k (.slice A' N' c')) (w'.setCell ⟨go,k,none⟩ (.slice A' N' c'))):=Lib.hid fun w' A' N' c' ha=>by
        exact HIA.out.add HLT.out (by rw[HR.out];exact ha)
       have hsz2:w3.heap.size≤(wd.alloc (.cells #[.bool false] 4)).heap.size:=HIA.out.b.size
       go_wp2_with (at_builtin;refine wpList_append_rs enB_len (by decide) enB_one Tryz.underlying71 enB_inf rfl (by decide) rfl (.tmp 73) (.tmp 75) rfl w3.heap.size _ N _ rfl HIA.out.own _ _ 1 1 [false] rfl HO.out hN1 hsz2 ?_;intro A' k' c' w' HK HA;have d8:=(HADD.out w' A' k' c' HA.out).1;have q8:=(HADD.out w' A' k' c' HA.out).2.1)
       go_roundw
       case rel=>exact⟨j+1,A',k',c',_,by go_num,HLTJ.out,(HADD.out w' A' k' c' HA.out).2.2⟩
       case measure=>
        have:=HLTJ.out
        simp[intOf]
        omega
      |some d=>
       have hd1:dv=(d:Int):=HDV.out.symm
       subst hd1
       have hd0:decide ((d:Int)≥0)=true:=decide_eq_true (by omega)
       cases uz with
       |none=>
        have hu1:uv= -1:=HUV.out.symm
        subst hu1
        have HR:Hid (undB S z k j=false):=Lib.hid (by rw[HUND.out];simp[undM])
        clear hkj
        refine wp_region_ord [0,1,2,3,4,5,6,7,8,9,10,11,12,13,14,15,16,17,18,19,20,21,22,23,24,25,26,27,28,29,30,31,32,33,34,35,36] [33] 37 (fun _=>True) (by kernel_rfl) (by kernel_rfl) (by kernel_rfl) (by kernel_rfl) (fun _ _ _ _ _ h=>h) trivial ?_
        simp only[steps,List.getElem?_cons_zero,List.getElem?_cons_succ]
        repeat(first
         |(refine ord_no rfl ?_;simp only[Act.put,List.setIfInBounds_toArray,List.set_cons_zero,List.set_cons_succ])
         |(refine ord_yes (v:= ?_) rfl rfl ?_ ?_;rotate_left;(focus(rintro w' -;go_simp;try with_reducible rfl));simp only[Act.put,List.setIfInBounds_toArray,List.set_cons_zero,List.set_cons_succ]))
        have HIX:=Lib.hid (HI.out.behind ((Below.refl wr.heap.size wr).drew))
        generalize World.drew _=wd at*
        refine ord_end ?_
        have HO:=Lib.hid (one_b wd false)
        have HAL:=Lib.hid (show Below wd.heap.size wd (wd.alloc (.cells #[.bool false] 4)) from(Below.refl _ _).alloc (Nat.le_refl _) _)
        have HIA:=Lib.hid (HIX.out.behind HAL.out)
        have y9:wd.cell? ⟨go,k,none⟩=some (.slice A N c):=by
         rw[cell_blk HIX.out.g]
         simp only[List.getElem?_toArray]
         exact HIX.out.cur HLT.out
        have HADD:Hid (∀(w':World) (A':Option Addr) (N' c':Nat),Appended (wd.alloc (.cells #[.bool false] 4)) w' w3.heap.size 4 1 (.slice A N c) (.slice A' N' c') N' ((undI S z k j++ [false]).flatMap enB)→w'.cell? ⟨go,k,none⟩=some (.slice A N c)∧w'.frozen? ⟨go,k,none⟩=false∧UnI S z w3 go tn k (j+1) A' N' c' (us'.set k (.slice A' N' c')) (w'.setCell ⟨go,k,none⟩ (.slice A' N' c'))):=Lib.hid fun w' A' N' c' ha=>by
         exact HIA.out.add HLT.out (by rw[HR.out];exact ha)
        have hsz2:w3.heap.size≤(wd.alloc (.cells #[.bool false] 4)).heap.size:=HIA.out.b.size
        go_wp2_with (at_builtin;refine wpList_append_rs enB_len (by decide) enB_one Tryz.underlying71 enB_inf rfl (by decide) rfl (.tmp 73) (.tmp 75) rfl w3.heap.size _ N _ rfl HIA.out.own _ _ 1 1 [false] rfl HO.out hN1 hsz2 ?_;intro A' k' c' w' HK HA;have d8:=(HADD.out w' A' k' c' HA.out).1;have q8:=(HADD.out w' A' k' c' HA.out).2.1)
        go_roundw
        case rel=>exact⟨j+1,A',k',c',_,by go_num,HLTJ.out,(HADD.out w' A' k' c' HA.out).2.2⟩
        case measure=>
         have:=HLTJ.out
         simp[intOf]
         omega
       |some u=>
        have hu1:uv=(u:Int):=HUV.out.symm
        subst hu1
        have hu0:decide ((u:Int)≥0)=true:=decide_eq_true (by omega)
        have hdn:=HSP.out k d HW.out (.inl HDZ.out)
        have hun:=HSP.out j u HW.out (.inr HUZ.out)
        obtain⟨a1,a2,a3,a4,a5⟩:=whole_iff.1 HW.out
        have hl1:=HSEN.out.rp.len
        have hl2:=HSEN.out.rl.len
        have hl3:=HSEN.out.rh.len
        have hl4:=HSEN.out.rb.len
        obtain⟨b4,o4,bd,od,yd,hA4,rd,cd⟩:=be_row HSEN.out HW.out (i:=d) (by omega)
        obtain⟨b3,o3,hA3,xd,fd⟩:=val_cell HSEN.out.rh HSEN.out.fh (i:=d) (by omega)
        obtain⟨b2,o2,hA2,xu,fu⟩:=val_cell HSEN.out.rl HSEN.out.fl (i:=u) (by omega)
        have hvd:hg z d=_:=hg_at (by omega)
        have hvu:lw z u=_:=lw_at (by omega)
        rw[← hvd] at xd fd
        rw[← hvu] at xu fu
        have z1:=HZ.out.p1
        have z2:=HZ.out.p2
        have z3:=HZ.out.p3
        rw[hA2] at z1
        rw[hA3] at z2
        rw[hA4] at z3
        have hdn4:(d:Int) < (n4:Int):=by omega
        have hdn3:(d:Int) < (n3:Int):=by omega
        have hun1:(u:Int) < (n1:Int):=by omega
        have hun2:(u:Int) < (n2:Int):=by omega
        have hd9:d≤60000:=by have:=HN400.out;omega
        have hu9:u≤60000:=by have:=HN400.out;omega
        have hru:=cd u (by omega)
        obtain⟨x,hx⟩: ∃x,bb z d u=x:=⟨_,rfl⟩
        rw[hx] at hru
        have HX:=Lib.hid hx
        have KC:Hid (∀W,Kept (· =go) w3 W→ ∀p q,w.cell? p=some q→W.cell? p=some q):=Lib.hid fun W hW p q hp=>by
         have h1:=World.block_lt_of_cell? w p hp
         have h3:=cell_old hp HB3.out
         exact(hW.cell (p:=p) (World.block_lt_of_cell? w3 p h3) (by have:=HNE.out.2.2.2;omega)).trans h3
        have KZ:Hid (∀W,Kept (· =go) w3 W→ ∀i q,w3.cell? ⟨w.heap.size,i,none⟩=some q→W.cell? ⟨w.heap.size,i,none⟩=some q):=Lib.hid fun W hW i q hp=>(hW.cell (p:=⟨w.heap.size,i,none⟩) (World.block_lt_of_cell? w3 ⟨w.heap.size,i,none⟩ hp) HNE.out.2.2.1).trans hp
        have HUR:Hid (∀W,Kept (· =go) w3 W→UnR W w.heap.size d u n2 c2 n3 c3 b4 o4 n4 c4 b3 o3 b2 o2 bd od yd n1 (hg z d) (lw z u) x):=Lib.hid fun W hW=>
         ⟨KZ.out W hW _ _ z1,KZ.out W hW _ _ z2,KZ.out W hW _ _ z3,KC.out W hW _ _ rd,KC.out W hW _ _ hru,KC.out W hW _ _ xd,KC.out W hW _ _ xu⟩
        obtain⟨r,hr⟩: ∃r,S.below (hg z d) (lw z u)=r:=⟨_,rfl⟩
        have HPB:Hid (∀W,Below w.heap.size w W→Calls Tryz.prog 61 #[v,.int .u64 (hg z d:Int),.int .u64 (lw z u:Int)] W fun e w'=>e= .returned (.bool r)∧Below W.heap.size W w'):=Lib.hid fun W hW=>pbelow_any v S _ _ W (HSRT.out W hW) fd fu r hr
        have HR:Hid (undB S z k j=(x && !r)):=Lib.hid (by rw[HUND.out,decide_eq_false hkj];simp[undM,hx,hr])
        have HBK:Hid (∀W,Kept (· =go) w3 W→Below w.heap.size w W):=Lib.hid fun W hW=>HB3.out.trans (hW.below HB3.out.size fun b e=>by have:=HNE.out.2.2.2;omega)
        generalize hg z d=hd' at*
        generalize lw z u=lu' at*
        clear hdn hun a1 a2 a3 a4 a5 hl1 hl2 hl3 hl4 rd cd xd xu z1 z2 z3 hru hvd hvu hA4 hA3 hA2 fd fu hx hr hkj
        have hur:=HUR.out wr HI.out.b
        refine wp_region_ord [0,1,2,3,4,5,6,7,8,9,10,11,12,13,14,15,16,17,18,19,20,21,22,23,24,25,26,27,28,29,30,31,32,33,34,35,36] [33] 37 (fun W=>UnR W w.heap.size d u n2 c2 n3 c3 b4 o4 n4 c4 b3 o3 b2 o2 bd od yd n1 hd' lu' x) (by kernel_rfl) (by kernel_rfl) (by kernel_rfl) (by kernel_rfl) (fun _ _ _ _ _ h=>h) ⟨hur.a1,hur.a2,hur.a3,hur.rd,hur.ru,hur.xd,hur.xu⟩ ?_
        simp only[steps,List.getElem?_cons_zero,List.getElem?_cons_succ]
        clear hur
        cases x with
        |false=>
         repeat(first
          |(refine ord_no rfl ?_;simp only[Act.put,List.setIfInBounds_toArray,List.set_cons_zero,List.set_cons_succ])
          |(refine ord_yes (v:= ?_) rfl rfl ?_ ?_;rotate_left;(focus(rintro w' ⟨x0,x1,x2,x3,x4,x5,x6⟩;go_simp;try with_reducible rfl));simp only[Act.put,List.setIfInBounds_toArray,List.set_cons_zero,List.set_cons_succ]))
         have HIX:=Lib.hid (HI.out.behind ((Below.refl wr.heap.size wr).drew))
         generalize World.drew _=wd at*
         refine ord_end ?_
         have HO:=Lib.hid (one_b wd false)
         have HAL:=Lib.hid (show Below wd.heap.size wd (wd.alloc (.cells #[.bool false] 4)) from(Below.refl _ _).alloc (Nat.le_refl _) _)
         have HIA:=Lib.hid (HIX.out.behind HAL.out)
         have y9:wd.cell? ⟨go,k,none⟩=some (.slice A N c):=by
          rw[cell_blk HIX.out.g]
          simp only[List.getElem?_toArray]
          exact HIX.out.cur HLT.out
         have HADD:Hid (∀(w':World) (A':Option Addr) (N' c':Nat),Appended (wd.alloc (.cells #[.bool false] 4)) w' w3.heap.size 4 1 (.slice A N c) (.slice A' N' c') N' ((undI S z k j++ [false]).flatMap enB)→w'.cell? ⟨go,k,none⟩=some (.slice A N c)∧w'.frozen? ⟨go,k,none⟩=false∧UnI S z w3 go tn k (j+1) A' N' c' (us'.set k (.slice A' N' c')) (w'.setCell ⟨go,k,none⟩ (.slice A' N' c'))):=Lib.hid fun w' A' N' c' ha=>by
          exact HIA.out.add HLT.out (by rw[HR.out];exact ha)
         have hsz2:w3.heap.size≤(wd.alloc (.cells #[.bool false] 4)).heap.size:=HIA.out.b.size
         go_wp2_with (at_builtin;refine wpList_append_rs enB_len (by decide) enB_one Tryz.underlying71 enB_inf rfl (by decide) rfl (.tmp 73) (.tmp 75) rfl w3.heap.size _ N _ rfl HIA.out.own _ _ 1 1 [false] rfl HO.out hN1 hsz2 ?_;intro A' k' c' w' HK HA;have d8:=(HADD.out w' A' k' c' HA.out).1;have q8:=(HADD.out w' A' k' c' HA.out).2.1)
         go_roundw
         case rel=>exact⟨j+1,A',k',c',_,by go_num,HLTJ.out,(HADD.out w' A' k' c' HA.out).2.2⟩
         case measure=>
          have:=HLTJ.out
          simp[intOf]
          omega
        |true=>
         repeat(first
          |(refine ord_no rfl ?_;simp only[Act.put,List.setIfInBounds_toArray,List.set_cons_zero,List.set_cons_succ])
          |(refine ord_yes (v:= ?_) rfl rfl ?_ ?_;rotate_left;(focus(rintro w' ⟨x0,x1,x2,x3,x4,x5,x6⟩;go_simp;try with_reducible rfl));simp only[Act.put,List.setIfInBounds_toArray,List.set_cons_zero,List.set_cons_succ]))
         have HID:=Lib.hid (HI.out.behind ((Below.refl wr.heap.size wr).drew))
         generalize World.drew _=wd at*
         refine ord_hard rfl rfl (fun K hK=> ?_)
         go_simp
         refine(HPB.out wd (HBK.out wd HID.out.b)).mono ?_
         rintro e w5 ⟨rfl,hv⟩
         have HIX:=Lib.hid (HID.out.behind hv)
         refine hK.out _ _ (fun _=>HUR.out w5 HIX.out.b) ?_
         clear hK K hv
         try simp only[Act.put,List.setIfInBounds_toArray,List.set_cons_zero,List.set_cons_succ]
         cases r with
         |true=>
          repeat(first
           |(refine ord_no rfl ?_;simp only[Act.put,List.setIfInBounds_toArray,List.set_cons_zero,List.set_cons_succ])
           |(refine ord_yes (v:= ?_) rfl rfl ?_ ?_;rotate_left;(focus(rintro w' ⟨x0,x1,x2,x3,x4,x5,x6⟩;go_simp;try with_reducible rfl));simp only[Act.put,List.setIfInBounds_toArray,List.set_cons_zero,List.set_cons_succ]))
          refine ord_end ?_
          have HO:=Lib.hid (one_b w5 false)
          have HAL:=Lib.hid (show Below w5.heap.size w5 (w5.alloc (.cells #[.bool false] 4)) from(Below.refl _ _).alloc (Nat.le_refl _) _)
          have HIA:=Lib.hid (HIX.out.behind HAL.out)
          have y9:w5.cell? ⟨go,k,none⟩=some (.slice A N c):=by
           rw[cell_blk HIX.out.g]
           simp only[List.getElem?_toArray]
           exact HIX.out.cur HLT.out
          have HADD:Hid (∀(w':World) (A':Option Addr) (N' c':Nat),Appended (w5.alloc (.cells #[.bool false] 4)) w' w3.heap.size 4 1 (.slice A N c) (.slice A' N' c') N' ((undI S z k j++ [false]).flatMap enB)→w'.cell? ⟨go,k,none⟩=some (.slice A N c)∧w'.frozen? ⟨go,k,none⟩=false∧UnI S z w3 go tn k (j+1) A' N' c' (us'.set k (.slice A' N' c')) (w'.setCell ⟨go,k,none⟩ (.slice A' N' c'))):=Lib.hid fun w' A' N' c' ha=>by
           exact HIA.out.add HLT.out (by rw[HR.out];exact ha)
          have hsz2:w3.heap.size≤(w5.alloc (.cells #[.bool false] 4)).heap.size:=HIA.out.b.size
          go_wp2_with (at_builtin;refine wpList_append_rs enB_len (by decide) enB_one Tryz.underlying71 enB_inf rfl (by decide) rfl (.tmp 73) (.tmp 75) rfl w3.heap.size _ N _ rfl HIA.out.own _ _ 1 1 [false] rfl HO.out hN1 hsz2 ?_;intro A' k' c' w' HK HA;have d8:=(HADD.out w' A' k' c' HA.out).1;have q8:=(HADD.out w' A' k' c' HA.out).2.1)
          go_roundw
          case rel=>exact⟨j+1,A',k',c',_,by go_num,HLTJ.out,(HADD.out w' A' k' c' HA.out).2.2⟩
          case measure=>
           have:=HLTJ.out
           simp[intOf]
           omega
         |false=>
          repeat(first
           |(refine ord_no rfl ?_;simp only[Act.put,List.setIfInBounds_toArray,List.set_cons_zero,List.set_cons_succ])
           |(refine ord_yes (v:= ?_) rfl rfl ?_ ?_;rotate_left;(focus(rintro w' ⟨x0,x1,x2,x3,x4,x5,x6⟩;go_simp;try with_reducible rfl));simp only[Act.put,List.setIfInBounds_toArray,List.set_cons_zero,List.set_cons_succ]))
          refine ord_end ?_
          have HO:=Lib.hid (one_b w5 true)
          have HAL:=Lib.hid (show Below w5.heap.size w5 (w5.alloc (.cells #[.bool true] 4)) from(Below.refl _ _).alloc (Nat.le_refl _) _)
          have HIA:=Lib.hid (HIX.out.behind HAL.out)
          have y9:w5.cell? ⟨go,k,none⟩=some (.slice A N c):=by
           rw[cell_blk HIX.out.g]
           simp only[List.getElem?_toArray]
           exact HIX.out.cur HLT.out
          have HADD:Hid (∀(w':World) (A':Option Addr) (N' c':Nat),Appended (w5.alloc (.cells #[.bool true] 4)) w' w3.heap.size 4 1 (.slice A N c) (.slice A' N' c') N' ((undI S z k j++ [true]).flatMap enB)→w'.cell? ⟨go,k,none⟩=some (.slice A N c)∧w'.frozen? ⟨go,k,none⟩=false∧UnI S z w3 go tn k (j+1) A' N' c' (us'.set k (.slice A' N' c')) (w'.setCell ⟨go,k,none⟩ (.slice A' N' c'))):=Lib.hid fun w' A' N' c' ha=>by
           exact HIA.out.add HLT.out (by rw[HR.out];exact ha)
          have hsz2:w3.heap.size≤(w5.alloc (.cells #[.bool true] 4)).heap.size:=HIA.out.b.size
          go_wp2_with (at_builtin;refine wpList_append_rs enB_len (by decide) enB_one Tryz.underlying71 enB_inf rfl (by decide) rfl (.tmp 73) (.tmp 75) rfl w3.heap.size _ N _ rfl HIA.out.own _ _ 1 1 [true] rfl HO.out hN1 hsz2 ?_;intro A' k' c' w' HK HA;have d8:=(HADD.out w' A' k' c' HA.out).1;have q8:=(HADD.out w' A' k' c' HA.out).2.1)
          go_roundw
          case rel=>exact⟨j+1,A',k',c',_,by go_num,HLTJ.out,(HADD.out w' A' k' c' HA.out).2.2⟩
          case measure=>
           have:=HLTJ.out
           simp[intOf]
           omega
    ·obtain rfl:tn=j:=by omega
     have HN:=Lib.hid (hI.next HLT.out)
     clear hj hI hltj HI
     go_wp2_with fail
     go_roundw
     case rel=>exact⟨k+1,us',by go_num,HLT.out,HN.out⟩
     case measure=>
      have:=HLT.out
      simp[intOf]
      omega
  ·obtain rfl:tn=k:=by omega
   have HI:=Lib.hid hI
   have HBW:Hid (Below w.heap.size w wr):=Lib.hid (HB3.out.trans (hI.b.below HB3.out.size fun b e=>by have:=HNE.out.2.2.2;omega))
   clear hlt hk hI
   go_wp2_with fail
   go_ret
   exact⟨go,us,w3,rfl,HI.out,HBW.out⟩
end Go.Proofs.YtmejhedegmjboaaGreat.I
