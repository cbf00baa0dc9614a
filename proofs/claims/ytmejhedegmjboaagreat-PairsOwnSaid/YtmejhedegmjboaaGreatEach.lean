/- Lack; Each: merged. -/
import Derived.LoopTactic
import Derived.Handy
import Derived.Laws.MakeOwn
import Derived.Test.YtmejhedegmjboaaGreatRepS
import Derived.Test.YtmejhedegmjboaaGreatSen
namespace Go.Proofs.YtmejhedegmjboaaGreat
open Go.RowKit
end Go.Proofs.YtmejhedegmjboaaGreat
namespace Go.Proofs.YtmejhedegmjboaaGreat
open Go.RowKit
theorem flat_set {α:Type}{enc:α→List Value}{sz:Nat}(he: ∀x,(enc x).length=sz){y:α}{u:Value}{i:Nat}(hi:i < sz): ∀(l:List α) (k:Nat) (h:k < l.length),enc y=(enc l[k]).set i u→(l.flatMap enc).set (k*sz+i) u=(l.set k y).flatMap enc
 | [],k,h,_=>by simp at h
 |x::l,0,_,e=>by
  rw[List.flatMap_cons,Nat.zero_mul,Nat.zero_add,List.set_append_left _ _ (by rw[he];exact hi)]
  show _=(y::l).flatMap enc
  rw[List.flatMap_cons,e]
  rfl
 |x::l,k+1,h,e=>by
  rw[List.flatMap_cons,List.set_append_right _ _ (by rw[he,Nat.add_mul];omega),he,show(k+1)*sz+i - sz=k*sz+i by rw[Nat.add_mul];omega,flat_set he hi l k (by simpa using h) (by simpa using e)]
  rfl
def BkAt {α:Type}(enc:α→List Value)(E:TypeId)(w:World)(g:Nat)(l:List α):Prop:=w.heap[g]?=some (.cells (l.flatMap enc).toArray E (0,0))
theorem BkAt.one {α:Type}{enc:α→List Value}{sz:Nat}(he: ∀x,(enc x).length=sz){E:TypeId}{w:World}{g:Nat}{l:List α}(h:BkAt enc E w g l){k:Nat}(hk:k < l.length){i:Nat}(hi:i < sz){u:Value}{y:α}(hy:enc y=(enc l[k]).set i u):BkAt enc E (w.setCell ⟨g,k*sz+i,none⟩ u) g (l.set k y):=by
 unfold BkAt at*
 rw[set_blk h]
 congr 2
 rw[← flat_set he hi l k hk hy]
 simp
theorem BkAt.cell {α:Type}{enc:α→List Value}{sz:Nat}(he: ∀x,(enc x).length=sz){E:TypeId}{w:World}{g:Nat}{l:List α}(h:BkAt enc E w g l){k:Nat}(hk:k < l.length){i:Nat}(hi:i < sz):w.cell? ⟨g,k*sz+i,none⟩=(enc l[k])[i]?:=by
 rw[cell_blk h, ← Array.getElem?_toList]
 exact flat_get he l k hk i hi
theorem BkAt.rs {α:Type}{enc:α→List Value}{sz:Nat}(he: ∀x,(enc x).length=sz){E:TypeId}{w:World}{g:Nat}{l:List α}(h:BkAt enc E w g l)(hl:l.length≤100000):Rs enc sz w w.heap.size (some ⟨g,0,none⟩) l.length l.length l:=
 Rs.of_blk (l:=l) (n:=l.length) (c:=l.length) he h ⟨[],by simp⟩ rfl (Nat.le_refl _) (by unfold maxLen;omega)
theorem BkAt.keep {α:Type}{enc:α→List Value}{E:TypeId}{w w':World}{g:Nat}{l:List α}(h:BkAt enc E w g l)(hb:Below w.heap.size w w'):BkAt enc E w' g l:=(hb.block g (lt_blk h)).trans h
theorem made_rows {α:Type}{enc:α→List Value}{z:Array Value}{y:α}{sz:Nat}(he: ∀x,(enc x).length=sz)(hs:z.size=sz)(hz:0 < sz)(hy:enc y=z.toList)(n:Nat):madeCells z (n*sz)=((List.replicate n y).flatMap enc).toArray:=by
 apply Array.ext
 ·rw[size_madeCells,List.size_toArray,flat_len he,List.length_replicate]
 ·intro i h1 h2
  rw[size_madeCells] at h1
  have hk:i / sz < (List.replicate n y).length:=by rw[List.length_replicate];exact Nat.div_lt_of_lt_mul (by rw[Nat.mul_comm];exact h1)
  have:=flat_get he (List.replicate n y) (i / sz) hk (i%sz) (Nat.mod_lt _ hz)
  rw[List.getElem_replicate,Nat.mul_comm (i / sz),Nat.div_add_mod,hy] at this
  rw[List.getElem?_eq_getElem (by simpa using h2)] at this
  simp only[madeCells,Array.getElem_map,Array.getElem_range,List.getElem_toArray]
  have h3:i%sz < z.size:=by rw[hs];exact Nat.mod_lt _ hz
  rw[Array.getElem?_toList,Array.getElem?_eq_getElem h3] at this
  rw[hs,getElem!_pos z _ h3]
  exact(Option.some.inj this).symm
def mkd {α β:Type}(f:α→β)(z:β)(l:List α)(i:Nat):List β:=(l.take i).map f++List.replicate (l.length - i) z
theorem mkd_len {α β:Type}{f:α→β}{z:β}{l:List α}{i:Nat}(h:i≤l.length):(mkd f z l i).length=l.length:=by simp[mkd];omega
theorem mkd_next {α β:Type}{f:α→β}{z:β}{l:List α}{i:Nat}(h:i < l.length):(mkd f z l i).set i (f l[i])=mkd f z l (i+1):=by
 unfold mkd
 rw[List.set_append_right _ _ (by rw[List.length_map,List.length_take];omega),List.take_succ_eq_append_getElem h,List.map_append,List.length_map,List.length_take,Nat.min_eq_left (by omega),Nat.sub_self,show l.length - i=(l.length - (i+1))+1 by omega,List.replicate_succ]
 simp
theorem mkd_end {α β:Type}(f:α→β)(z:β)(l:List α):mkd f z l l.length=l.map f:=by simp[mkd]
theorem bd_inf:(Tryz.prog.info? 69).map (fun i=>(i.zero,i.size,i.bytes))=some (some (.agg #[.bool false,.int .u64 0,.bool false,.int .u64 0]),4,32):=by kernel_rfl
def zeroB:Bo.Bd:=⟨false,0,false,0⟩
set_option maxRecDepth 100000 in
set_option maxHeartbeats 1000000 in
theorem bound_any (v:Bool)(z:Nat)(w:World):
  Calls Tryz.prog 72 #[.agg #[.bool v,.int .u64 (z:Int)]] w fun e w'=>e= .returned (.agg #[.bool v,.int .u64 (z:Int),.bool v,.int .u64 (z:Int)])∧Below w.heap.size w w':=by
 have hb:=((Below.refl w.heap.size w).alloc (Nat.le_refl _) (.cells #[.bool v,.int .u64 (z:Int)] 62)).alloc (by simp) (.cells #[.bool v,.int .u64 (z:Int),.bool v,.int .u64 (z:Int)] 69)
 go_enter Tryz.func72,Tryz.ntmps72
 go_wp2
 refine bodyPost_ret (v:= .agg #[.bool v,.int .u64 (z:Int),.bool v,.int .u64 (z:Int)]) ?_ rfl ⟨rfl,hb⟩
 simp[results,Tryz.results72,go_sem]
def EBRel (l:List Sp)(w:World)(v13:Value)(wr:World):Prop:= ∃i:Nat,v13= .int .i64 (i:Int)∧i≤l.length∧BkAt Bo.bdc 69 wr w.heap.size (mkd bnd zeroB l i)∧Below w.heap.size w wr
set_option maxRecDepth 100000 in
set_option maxHeartbeats 4000000 in
theorem eachB_any (A:Option Addr)(n c:Nat)(l:List Sp)(w:World)(h:Rs spc 5 w w.heap.size A n c l)(hz: ∀p∈l,U64 p.z)(hn:n≤256):
  Calls Tryz.prog 71 #[.slice A n c,.func (.func 72) #[] #[]] w fun e w'=> ∃g,e= .returned (.slice (some ⟨g,0,none⟩) n n)∧w.heap.size≤g∧Rs Bo.bdc 4 w' w'.heap.size (some ⟨g,0,none⟩) n n (l.map bnd)∧Below w.heap.size w w':=by
 obtain⟨i0,hi0,hz0,hz1,hz2⟩:=info_parts bd_inf
 have hlen:=h.len
 have hcap:=h.cap
 have htop:=h.top
 unfold maxLen at htop
 have hmk: ∀W,(Instr.makeSlice 42 (.int .i64 (n:Int)) (.int .i64 (n:Int))).run Tryz.prog W= .ok (.slice (some ⟨W.heap.size,0,none⟩) n n) (W.alloc (.cells ((mkd bnd zeroB l 0).flatMap Bo.bdc).toArray 69)):=by
  intro W
  have:=run_make (P:=Tryz.prog) W 42 69 i0 _ Tryz.underlying42 hi0 hz0 .i64 .i64 n n (by omega) (Int.le_refl _) (by rw[hz2];omega) (by omega)
  rw[this,hz1,Int.toNat_natCast,show(Value.agg #[Value.bool false,.int .u64 0,.bool false,.int .u64 0]).cells= #[Value.bool false,.int .u64 0,.bool false,.int .u64 0] from rfl,made_rows (z:= #[Value.bool false,.int .u64 0,.bool false,.int .u64 0]) (y:=zeroB) Bo.bdc_len rfl (by decide) rfl n,mkd,hlen]
  rfl
 have hg0:BkAt Bo.bdc 69 (w.alloc (.cells ((mkd bnd zeroB l 0).flatMap Bo.bdc).toArray 69)) w.heap.size (mkd bnd zeroB l 0):=heap_alloc_new w _
 have hb0:Below w.heap.size w (w.alloc (.cells ((mkd bnd zeroB l 0).flatMap Bo.bdc).toArray 69)):=(Below.refl _ _).alloc (Nat.le_refl _) _
 have HR:=Lib.hid h
 have HL:=Lib.hid hlen
 have HG:=Lib.hid hg0
 have HZ:=Lib.hid hz
 generalize ((mkd bnd zeroB l 0).flatMap Bo.bdc).toArray=cs at*
 clear h hg0 hi0 hz0 hz1 hz2 i0 hlen hz
 go_enter Tryz.func71,Tryz.ntmps71
 go_wp2
 clear hmk
 go_loopw [13] (fun v13 wr=>EBRel l w v13 wr) (fun v13 _=>n - (intOf v13).toNat)
 case atStart=>exact⟨0,rfl,by omega,HG.out,hb0⟩
 case round=>
  clear HG hb0
  obtain⟨i,rfl,hi,hg,hb⟩:=hrel
  by_cases hlt:i < n
  ·have hi':i < l.length:=by rw[HL.out];exact hlt
   have hr:=(HR.out.at_size (Nat.le_refl _) hb)
   obtain⟨b,o,rfl,hbb,e0,e1,e2,e3,e4⟩:=spot_at hr hi'
   have hu:=HZ.out _ (List.getElem_mem hi')
   have hgl:w.heap.size < wr.heap.size:=lt_blk hg
   have hit:i < (mkd bnd zeroB l i).length:=by rw[mkd_len hi];exact hi'
   have HNX:=Lib.hid (mkd_next (f:=bnd) (z:=zeroB) hi')
   have HLT:=Lib.hid hlt
   have hdk:decide ((i:Int) < (n:Int))=true:=decide_eq_true (by omega)
   generalize mkd bnd zeroB l i=L at*
   generalize l[i]=x at*
   obtain⟨xn,xp,xs,xv,xz⟩:=x
   simp only at e0 e1 e2 e3 e4 hu
   obtain⟨z,rfl,hzz⟩:=hu.nat
   have hfx:bnd ⟨xn,xp,xs,xv,(z:Int)⟩=⟨xv,z,xv,z⟩:=rfl
   rw[hfx] at HNX
   have HC:Hid (∀W,Below w.heap.size w W→Calls Tryz.prog 72 #[.agg #[.bool xv,.int .u64 (z:Int)]] W fun e w'=>e= .returned (.agg #[.bool xv,.int .u64 (z:Int),.bool xv,.int .u64 (z:Int)])∧Below W.heap.size W w'):=
    Lib.hid fun W _=>bound_any xv z W
   clear hfx
   have hal:Below wr.heap.size wr (wr.alloc (.cells #[.int .i64 (xn:Int),.int .u8 (xp:Int),.int .u8 (xs:Int),.bool xv,.int .u64 (z:Int)] 67)):=(Below.refl _ _).alloc (Nat.le_refl _) _
   have HB:=Lib.hid (hb.trans (hal.mono hb.size))
   have HG:=Lib.hid (BkAt.keep hg hal)
   have HGL:=Lib.hid (Nat.lt_of_lt_of_le hgl hal.size)
   have HIT:=Lib.hid hit
   have hcall:=HC.out _ HB.out
   have HCALL:=Lib.hid hcall
   clear hr hbb hg hit hi' hb hlt hal hu hzz hgl hcall HC
   go_wp2_with fail
   refine HCALL.out.mono ?_
   rintro e w3 ⟨rfl,hb3⟩
   clear HCALL e0 e1 e2 e3 e4 hdk
   have hg3:=BkAt.keep HG.out hb3
   have HB3:=Lib.hid (HB.out.trans (hb3.mono HB.out.size))
   have hgl3:=Nat.lt_of_lt_of_le HGL.out hb3.size
   have hit:=HIT.out
   have d0:=hg3.cell Bo.bdc_len hit (i:=0) (by decide)
   have d1:=hg3.cell Bo.bdc_len hit (i:=1) (by decide)
   have d2:=hg3.cell Bo.bdc_len hit (i:=2) (by decide)
   have d3:=hg3.cell Bo.bdc_len hit (i:=3) (by decide)
   obtain⟨ws,hws⟩: ∃ws,ws=(((w3.setCell ⟨w.heap.size,i*4,none⟩ (.bool xv)).setCell ⟨w.heap.size,i*4+1,none⟩ (.int .u64 (z:Int))).setCell ⟨w.heap.size,i*4+2,none⟩ (.bool xv)).setCell ⟨w.heap.size,i*4+3,none⟩ (.int .u64 (z:Int)):=⟨_,rfl⟩
   have h0:=hg3.one Bo.bdc_len hit (i:=0) (u:= .bool xv) (by decide) (y:=⟨xv,L[i].an,L[i].bv,L[i].bn⟩) rfl
   have h1:=h0.one Bo.bdc_len (k:=i) (by simpa using hit) (i:=1) (u:= .int .u64 (z:Int)) (by decide) (y:=⟨xv,z,L[i].bv,L[i].bn⟩) (by simp[Bo.bdc])
   have h2:=h1.one Bo.bdc_len (k:=i) (by simpa using hit) (i:=2) (u:= .bool xv) (by decide) (y:=⟨xv,z,xv,L[i].bn⟩) (by simp[Bo.bdc])
   have h3:=h2.one Bo.bdc_len (k:=i) (by simpa using hit) (i:=3) (u:= .int .u64 (z:Int)) (by decide) (y:=⟨xv,z,xv,z⟩) (by simp[Bo.bdc])
   rw[List.set_set,List.set_set,List.set_set,HNX.out] at h3
   have HST:Hid (BkAt Bo.bdc 69 ws w.heap.size (mkd bnd zeroB l (i+1))∧Below w.heap.size w ws):=Lib.hid ⟨hws▸h3,hws▸((((HB3.out.setCell (p:=⟨w.heap.size,i*4,none⟩) (Nat.le_refl _) _).setCell (p:=⟨w.heap.size,i*4+1,none⟩) (Nat.le_refl _) _).setCell (p:=⟨w.heap.size,i*4+2,none⟩) (Nat.le_refl _) _).setCell (p:=⟨w.heap.size,i*4+3,none⟩) (Nat.le_refl _) _)⟩
   rw[hws] at HST
   have f0:w3.frozen? ⟨w.heap.size,i*4,none⟩=false:=frozen_blk hg3
   have f1:w3.frozen? ⟨w.heap.size,i*4+1,none⟩=false:=frozen_blk hg3
   have f2:w3.frozen? ⟨w.heap.size,i*4+2,none⟩=false:=frozen_blk hg3
   have f3:w3.frozen? ⟨w.heap.size,i*4+3,none⟩=false:=frozen_blk hg3
   generalize L[i]=y at*
   obtain⟨av,an,bv,bn⟩:=y
   replace d0:_=some (Value.bool av):=d0
   replace d1:_=some (Value.int .u64 (an:Int)):=d1
   replace d2:_=some (Value.bool bv):=d2
   replace d3:_=some (Value.int .u64 (bn:Int)):=d3
   simp only[Nat.add_zero] at d0
   clear hws h0 h1 h2 h3
   clear ws
   clear hg3 hit hb3 HB HG HGL hgl3
   go_wp2_with fail
   go_roundw
   case rel=>exact⟨i+1,by go_num,by have:=HLT.out;have:=HL.out;omega,HST.out.1,HST.out.2⟩
   case measure=>
    have:=HLT.out
    simp[intOf]
    omega
  ·have hin:i=n:=by have:=HL.out;omega
   subst hin
   have hg':BkAt Bo.bdc 69 wr w.heap.size (l.map bnd):=by
    have e:=mkd_end bnd zeroB l
    rw[HL.out] at e
    rw[← e]
    exact hg
   have hrs:=hg'.rs Bo.bdc_len (by rw[List.length_map,HL.out];omega)
   rw[List.length_map,HL.out] at hrs
   have HRS:=Lib.hid hrs
   clear hg hg' hrs
   go_wp2
   go_ret
   exact⟨_,rfl,Nat.le_refl _,HRS.out,hb⟩
end Go.Proofs.YtmejhedegmjboaaGreat
