/- What is told of a sense, in memory: its classes, what is fixed, and which are one. Condition: the sense can be read. -/
/- What packed, beyond and beneath tell: whom a class goes on alike with, as an end and a text. Condition: the sense can be read. -/
import Derived.Test.YtmejhedegmjboaaGreatPcM
import Derived.Test.YtmejhedegmjboaaGreatRwF
import Derived.Test.YtmejhedegmjboaaGreatRwO
namespace Go.Proofs.YtmejhedegmjboaaGreat.I
open Go.RowKit PaC
def tdV (v:Value)(A1:Option Addr)(n1 c1:Nat)(A2:Option Addr)(n2 c2:Nat)(A3:Option Addr)(n3 c3:Nat)(A4:Option Addr)(n4 c4:Nat)(F:Option Addr)(nf cf:Nat)(X:Option Addr)(nx cx:Nat)(V:Option Addr)(nv cv:Nat)(O:Option Addr)(no co:Nat):Value:= .agg #[v,.slice A1 n1 c1,.slice A2 n2 c2,.slice A3 n3 c3,.slice A4 n4 c4,.slice F nf cf,.slice X nx cx,.slice V nv cv,.slice O no co]
structure TBx (w:World)(g:Nat)(v:Value)(A1:Option Addr)(n1 c1:Nat)(A2:Option Addr)(n2 c2:Nat)(A3:Option Addr)(n3 c3:Nat)(A4:Option Addr)(n4 c4:Nat)(F:Option Addr)(nf cf:Nat)(X:Option Addr)(nx cx:Nat)(V:Option Addr)(nv cv:Nat)(O:Option Addr)(no co:Nat):Prop where
 p0:w.cell? ⟨g,0,none⟩=some v
 p1:w.cell? ⟨g,1,none⟩=some (.slice A1 n1 c1)
 p2:w.cell? ⟨g,2,none⟩=some (.slice A2 n2 c2)
 p3:w.cell? ⟨g,3,none⟩=some (.slice A3 n3 c3)
 p4:w.cell? ⟨g,4,none⟩=some (.slice A4 n4 c4)
 p5:w.cell? ⟨g,5,none⟩=some (.slice F nf cf)
 p6:w.cell? ⟨g,6,none⟩=some (.slice X nx cx)
 p7:w.cell? ⟨g,7,none⟩=some (.slice V nv cv)
 p8:w.cell? ⟨g,8,none⟩=some (.slice O no co)
section
variable {w W:World} {g:Nat} {v:Value} {A1:Option Addr} {n1 c1:Nat} {A2:Option Addr} {n2 c2:Nat} {A3:Option Addr} {n3 c3:Nat} {A4:Option Addr} {n4 c4:Nat} {F:Option Addr} {nf cf:Nat} {X:Option Addr} {nx cx:Nat} {V:Option Addr} {nv cv:Nat} {O:Option Addr} {no co:Nat}
theorem TBx.keep (h:TBx w g v A1 n1 c1 A2 n2 c2 A3 n3 c3 A4 n4 c4 F nf cf X nx cx V nv cv O no co)(hb:Below w.heap.size w W):TBx W g v A1 n1 c1 A2 n2 c2 A3 n3 c3 A4 n4 c4 F nf cf X nx cx V nv cv O no co:=
 ⟨cell_old h.p0 hb,cell_old h.p1 hb,cell_old h.p2 hb,cell_old h.p3 hb,cell_old h.p4 hb,cell_old h.p5 hb,cell_old h.p6 hb,cell_old h.p7 hb,cell_old h.p8 hb⟩
theorem TBx.of (h:w.heap[g]?=some (.cells #[v,.slice A1 n1 c1,.slice A2 n2 c2,.slice A3 n3 c3,.slice A4 n4 c4,.slice F nf cf,.slice X nx cx,.slice V nv cv,.slice O no co] 108 (0,0))):TBx w g v A1 n1 c1 A2 n2 c2 A3 n3 c3 A4 n4 c4 F nf cf X nx cx V nv cv O no co:=
 ⟨(cell_blk (i:=0) h).trans rfl,(cell_blk (i:=1) h).trans rfl,(cell_blk (i:=2) h).trans rfl,(cell_blk (i:=3) h).trans rfl,(cell_blk (i:=4) h).trans rfl,(cell_blk (i:=5) h).trans rfl,(cell_blk (i:=6) h).trans rfl,(cell_blk (i:=7) h).trans rfl,(cell_blk (i:=8) h).trans rfl⟩
end
def lim (z:Sen):Nat:=if wholeS z=true then z.p.length else 0
theorem lim_whole {z:Sen}{i:Nat}(h:i < lim z):wholeS z=true∧i < z.p.length:=by
 unfold lim at h
 split at h
 ·rename_i e;exact⟨e,h⟩
 ·omega
theorem lim_eq {z:Sen}(h:wholeS z=true):lim z=z.p.length:=if_pos h
theorem lim_no {z:Sen}(h:wholeS z=false):lim z=0:=by unfold lim;rw[h];rfl
theorem al_lim (z:Sen):(alF z).length=lim z:=by
 unfold alF lim
 split <;> simp
theorem fx_lim (S:Bo.Sr)(z:Sen):(fixF S z).length=lim z∧(fvF S z).length=lim z:=by
 unfold fixF fvF lim
 split <;> simp
structure TdAt (w:World)(S:Bo.Sr)(z:Sen)(v:Value)(A1:Option Addr)(n1 c1:Nat)(A2:Option Addr)(n2 c2:Nat)(A3:Option Addr)(n3 c3:Nat)(A4:Option Addr)(n4 c4:Nat)(F:Option Addr)(nf cf:Nat)(X:Option Addr)(nx cx:Nat)(V:Option Addr)(nv cv:Nat):Prop where
 srt:Bo.SrtIn w v S
 sen:SenAt w z A1 n1 c1 A2 n2 c2 A3 n3 c3 A4 n4 c4
 f:Rd nmI w w.heap.size F nf cf (alF z)
 x:Rd Value.bool w w.heap.size X nx cx (fixF S z)
 v:Rd La.nm w w.heap.size V nv cv (fvF S z)
 le:n1≤400
section
variable {w W:World} {S:Bo.Sr} {z:Sen} {v:Value} {A1:Option Addr} {n1 c1:Nat} {A2:Option Addr} {n2 c2:Nat} {A3:Option Addr} {n3 c3:Nat} {A4:Option Addr} {n4 c4:Nat} {F:Option Addr} {nf cf:Nat} {X:Option Addr} {nx cx:Nat} {V:Option Addr} {nv cv:Nat}
theorem TdAt.keep (h:TdAt w S z v A1 n1 c1 A2 n2 c2 A3 n3 c3 A4 n4 c4 F nf cf X nx cx V nv cv)(hb:Below w.heap.size w W):TdAt W S z v A1 n1 c1 A2 n2 c2 A3 n3 c3 A4 n4 c4 F nf cf X nx cx V nv cv:=
 ⟨h.srt.keep hb,h.sen.keep hb,(h.f.below hb).mono hb.size,(h.x.below hb).mono hb.size,(h.v.below hb).mono hb.size,h.le⟩
theorem TdAt.sz (h:TdAt w S z v A1 n1 c1 A2 n2 c2 A3 n3 c3 A4 n4 c4 F nf cf X nx cx V nv cv):nf=lim z∧nx=lim z∧nv=lim z∧lim z≤n1:=by
 have h1:=h.f.len
 have h2:=h.x.len
 have h3:=h.v.len
 have h4:=h.sen.rp.len
 rw[al_lim] at h1
 rw[(fx_lim S z).1] at h2
 rw[(fx_lim S z).2] at h3
 refine⟨h1.symm,h2.symm,h3.symm,?_⟩
 unfold lim
 split <;> omega
theorem TdAt.lens (h:TdAt w S z v A1 n1 c1 A2 n2 c2 A3 n3 c3 A4 n4 c4 F nf cf X nx cx V nv cv)(hw:wholeS z=true):z.p.length=n1∧n2=n1∧n3=n1∧n4=n1∧z.lo.length=n1∧z.hi.length=n1∧z.be.length=n1:=by
 obtain⟨a1,a2,a3,a4,a5⟩:=whole_iff.1 hw
 have h1:=h.sen.rp.len
 have h2:=h.sen.rl.len
 have h3:=h.sen.rh.len
 have h4:=h.sen.rb.len
 omega
theorem TdAt.atF (h:TdAt w S z v A1 n1 c1 A2 n2 c2 A3 n3 c3 A4 n4 c4 F nf cf X nx cx V nv cv){i:Nat}(hi:i < lim z): ∃b o,F=some ⟨b,o,none⟩∧w.cell? ⟨b,o+i,none⟩=some (.int .i64 (first z i:Int)):=by
 have hn:=h.sz
 obtain⟨b,o,e,-,hc⟩:=h.f.spot (by omega)
 have:=hc i (by rw[al_lim];exact hi)
 have e2:(alF z)[i]'(by rw[al_lim];exact hi)=first z i:=by
  simp only[alF,if_pos (lim_whole hi).1,List.getElem_map,List.getElem_range]
 rw[e2] at this
 exact⟨b,o,e,this⟩
theorem TdAt.atX (h:TdAt w S z v A1 n1 c1 A2 n2 c2 A3 n3 c3 A4 n4 c4 F nf cf X nx cx V nv cv){i:Nat}(hi:i < lim z): ∃b o,X=some ⟨b,o,none⟩∧w.cell? ⟨b,o+i,none⟩=some (.bool (fixB S z i)):=by
 have hn:=h.sz
 obtain⟨b,o,e,-,hc⟩:=h.x.spot (by omega)
 have:=hc i (by rw[(fx_lim S z).1];exact hi)
 have e2:(fixF S z)[i]'(by rw[(fx_lim S z).1];exact hi)=fixB S z i:=by
  simp only[fixF,if_pos (lim_whole hi).1,List.getElem_map,List.getElem_range]
 rw[e2] at this
 exact⟨b,o,e,this⟩
theorem TdAt.atV (h:TdAt w S z v A1 n1 c1 A2 n2 c2 A3 n3 c3 A4 n4 c4 F nf cf X nx cx V nv cv){i:Nat}(hi:i < lim z)(hf:fixB S z i=true): ∃b o,V=some ⟨b,o,none⟩∧w.cell? ⟨b,o+i,none⟩=some (.int .u64 (valF z i:Int)):=by
 have hn:=h.sz
 obtain⟨b,o,e,-,hc⟩:=h.v.spot (by omega)
 have:=hc i (by rw[(fx_lim S z).2];exact hi)
 have e2:(fvF S z)[i]'(by rw[(fx_lim S z).2];exact hi)=valF z i:=by
  simp only[fvF,if_pos (lim_whole hi).1,List.getElem_map,List.getElem_range,if_pos hf]
 rw[e2] at this
 exact⟨b,o,e,this⟩
end
set_option maxRecDepth 100000 in
set_option maxHeartbeats 1000000 in
theorem pbelow_any (v:Value)(S:Bo.Sr)(x y:Nat)(w:World)(hs:Bo.SrtIn w v S)(hx:x < 18446744073709551616)(hy:y < 18446744073709551616)(r:Bool)(hr:S.below x y=r):
  Calls Tryz.prog 61 #[v,.int .u64 (x:Int),.int .u64 (y:Int)] w fun e w'=>e= .returned (.bool r)∧Below w.heap.size w w':=by
 rcases hs with⟨rfl,rfl⟩|hs
 ·obtain rfl:false=r:=hr
  clear hx hy
  go_enter Tryz.func61,Tryz.ntmps61
  go_wp2
  go_ret
  exact⟨rfl,Below.refl _ _⟩
 ·rcases hs with⟨a,rfl,hA⟩|⟨a,rfl,hA⟩|⟨rfl,hA⟩
  all_goals(
   have hc:=hA.below w (Below.refl _ _) x y hx hy
   rw[hr] at hc
   have HC:=Lib.hid hc
   clear hA hx hy hc
   go_enter Tryz.func61,Tryz.ntmps61
   go_wp2_with fail
   refine HC.out.mono ?_
   rintro e w1 ⟨rfl,hb⟩
   have HB:=Lib.hid hb
   clear hb HC
   go_wp2_with fail
   go_ret
   exact⟨rfl,HB.out⟩)
set_option maxRecDepth 100000 in
set_option maxHeartbeats 1000000 in
theorem pclo1_any (g gi i k:Nat)(z:Sen)(v:Value)(A1:Option Addr)(n1 c1:Nat)(A2:Option Addr)(n2 c2:Nat)(A3:Option Addr)(n3 c3:Nat)(A4:Option Addr)(n4 c4:Nat)(F:Option Addr)(nf cf:Nat)(X:Option Addr)(nx cx:Nat)(V:Option Addr)(nv cv:Nat)(O:Option Addr)(no co:Nat)(w:World)(h:SenAt w z A1 n1 c1 A2 n2 c2 A3 n3 c3 A4 n4 c4)(hz:TBx w g v A1 n1 c1 A2 n2 c2 A3 n3 c3 A4 n4 c4 F nf cf X nx cx V nv cv O no co)(hg:w.cell? ⟨gi,0,none⟩=some (.int .i64 (i:Int)))(hw:wholeS z=true)(hi:i < n1)(hk:k < n1):
  Calls Tryz.prog 132 #[.int .i64 (k:Int),.pointer (some ⟨g,0,none⟩),.pointer (some ⟨gi,0,none⟩)] w fun e w'=>e= .returned (.bool (colB z i k))∧Below w.heap.size w w':=by
 have hl:=h.rp.len
 obtain⟨a1,a2,a3,a4,a5⟩:=whole_iff.1 hw
 have hn4:=h.rb.len
 obtain⟨b,o,b',o',y,rfl,e1,e2⟩:=be_cell h hw (i:=k) (j:=i) (by omega) (by omega)
 have p4:=hz.p4
 have hkn:(k:Int) < (n4:Int):=by omega
 have hin:(i:Int) < (n1:Int):=by omega
 unfold colB
 generalize bb z k i=r at*
 clear h hz hw a1 a2 a3 a4 a5 hl hn4
 go_enter Tryz.func132,Tryz.ntmps132
 go_wp2
 go_still_tail 7,(by kernel_rfl)
 go_wp2
 go_ret
 exact⟨rfl,(Below.refl _ _).drew⟩
set_option maxRecDepth 100000 in
set_option maxHeartbeats 1000000 in
theorem pclo2_any (g gi i k:Nat)(z:Sen)(v:Value)(A1:Option Addr)(n1 c1:Nat)(A2:Option Addr)(n2 c2:Nat)(A3:Option Addr)(n3 c3:Nat)(A4:Option Addr)(n4 c4:Nat)(F:Option Addr)(nf cf:Nat)(X:Option Addr)(nx cx:Nat)(V:Option Addr)(nv cv:Nat)(O:Option Addr)(no co:Nat)(w:World)(h:SenAt w z A1 n1 c1 A2 n2 c2 A3 n3 c3 A4 n4 c4)(hz:TBx w g v A1 n1 c1 A2 n2 c2 A3 n3 c3 A4 n4 c4 F nf cf X nx cx V nv cv O no co)(hg:w.cell? ⟨gi,0,none⟩=some (.int .i64 (i:Int)))(hw:wholeS z=true)(hi:i < n1)(hk:k < n1):
  Calls Tryz.prog 131 #[.int .i64 (k:Int),.pointer (some ⟨g,0,none⟩),.pointer (some ⟨gi,0,none⟩)] w fun e w'=>e= .returned (.bool (rowB z i k))∧Below w.heap.size w w':=by
 have hl:=h.rp.len
 obtain⟨a1,a2,a3,a4,a5⟩:=whole_iff.1 hw
 have hn4:=h.rb.len
 obtain⟨b,o,b',o',y,rfl,e1,e2⟩:=be_cell h hw (i:=i) (j:=k) (by omega) (by omega)
 have p4:=hz.p4
 have hkn:(i:Int) < (n4:Int):=by omega
 have hin:(k:Int) < (n1:Int):=by omega
 unfold rowB
 generalize bb z i k=r at*
 clear h hz hw a1 a2 a3 a4 a5 hl hn4
 go_enter Tryz.func131,Tryz.ntmps131
 go_wp2
 go_ret
 exact⟨rfl,Below.refl _ _⟩
def pkL (r:Nat→Bool)(n:Nat):List UInt8:=(List.range n).map fun k=>if r k=true then 1 else 0
def pk (r:Nat→Bool)(n:Nat):ByteArray:=str (pkL r n)
theorem pk_eq {r s:Nat→Bool}{n:Nat}:pk r n=pk s n↔ ∀k < n,r k=s k:=by
 unfold pk pkL str
 constructor
 ·intro h k hk
  have h1:(List.range n).map (fun k=>if r k=true then(1:UInt8) else 0)=(List.range n).map (fun k=>if s k=true then(1:UInt8) else 0):=by
   have:=congrArg ByteArray.data h
   simpa using congrArg Array.toList this
  have h2:=congrArg (fun l=>l[k]?) h1
  simp only[List.getElem?_map,List.getElem?_range hk,Option.map_some,Option.some.injEq] at h2
  cases e:r k <;> cases e':s k <;> rw[e,e'] at h2 <;> first|rfl|exact absurd h2 (by decide)
 ·intro h
  have:(List.range n).map (fun k=>if r k=true then(1:UInt8) else 0)=(List.range n).map (fun k=>if s k=true then(1:UInt8) else 0):=List.map_congr_left fun k hk=>by rw[h k (List.mem_range.1 hk)]
  rw[this]
end Go.Proofs.YtmejhedegmjboaaGreat.I
namespace Go.Proofs.YtmejhedegmjboaaGreat.I
open Go.RowKit PaC
def ucl (l:List UInt8):Array Value:=(l.map fun b=>Value.int .u8 (b.toNat:Int)).toArray
theorem ucl_at {l:List UInt8}{j:Nat}(h:j < l.length):(ucl l)[j]?=some (.int .u8 (l[j].toNat:Int)):=by
 rw[ucl,List.getElem?_toArray,List.getElem?_map,List.getElem?_eq_getElem h]
 rfl
theorem ucl_set (l:List UInt8)(j:Nat):(ucl l).setIfInBounds j (.int .u8 1)=ucl (l.set j 1):=by
 simp[ucl,List.map_set]
theorem inf5:(Tryz.prog.info? 5).map (fun i=>(i.zero,i.size,i.bytes))=some (some (.int .u8 0),1,1):=by kernel_rfl
theorem make_by (n:Nat)(h:n≤65536)(W:World):(Instr.makeSlice 235 (.int .i64 (n:Int)) (.int .i64 (n:Int))).run Tryz.prog W= .ok (.slice (some ⟨W.heap.size,0,none⟩) n n) (W.alloc (.cells (ucl (List.replicate n 0)) 5)):=by
 obtain⟨i0,hi0,hz0,hz1,hz2⟩:=info_parts inf5
 have:=run_make (P:=Tryz.prog) W 235 5 i0 _ Tryz.underlying235 hi0 hz0 .i64 .i64 n n (by omega) (Int.le_refl _) (by rw[hz2];omega) (by omega)
 rw[this,hz1,Nat.mul_one,Int.toNat_natCast]
 rw[show(Value.int .u8 0).cells= #[.int .u8 0] from rfl,show madeCells #[.int .u8 0] n=ucl (List.replicate n 0) from ?_]
 apply Array.ext
 ·simp[madeCells,ucl]
 ·intro i h1 h2
  simp[madeCells,ucl,Nat.mod_one]
theorem nums_bytes (l:List UInt8):strOfNums (l.map fun b=>(b.toNat:Int))=str l:=by
 apply ByteArray.ext
 apply Array.toList_inj.1
 rw[strOfNums_data,List.map_map]
 show _=l
 conv=>rhs;rw[← List.map_id l]
 apply List.map_congr_left
 intro x _
 simp
theorem conv_by {w:World}{g n:Nat}{l:List UInt8}(h:w.heap[g]?=some (.cells (ucl l) 5 (0,0)))(hl:l.length=n):(convert 235 9 (.slice (some ⟨g,0,none⟩) n n)).run Tryz.prog w= .ok (.string (str l)) w:=by
 rcases Nat.eq_zero_or_pos n with hn|hn
 ·have hl:l= []:=List.eq_nil_of_length_eq_zero (by omega)
  subst hl
  subst hn
  rw[run_convert_bytes_string w 235 9 5 (some ⟨g,0,none⟩) 0 0 Tryz.underlying235 Tryz.underlying5 Tryz.underlying9]
  have:=run_bytesToString (P:=Tryz.prog) w ⟨g,0,none⟩ 0 0 [] (by rfl)
  rw[this]
  rfl
 ·have:=run_convert_bytes_arg (P:=Tryz.prog) w 235 5 Tryz.underlying235 Tryz.underlying5 g 0 n n (l.map fun b=>(b.toNat:Int)) (by simp[hl]) (fun i hi=>by
   have hi':i < l.length:=by omega
   rw[Nat.zero_add,cell_blk h,ucl_at hi']
   simp[hi']) 9 Tryz.underlying9
  rw[this,nums_bytes]
def pkI (r:Nat→Bool)(n i:Nat):List UInt8:=(List.range n).map fun k=>if (decide (k < i) && r k)=true then 1 else 0
theorem pkI_len (r:Nat→Bool)(n i:Nat):(pkI r n i).length=n:=by simp[pkI]
theorem pkI_zero (r:Nat→Bool)(n:Nat):List.replicate n 0=pkI r n 0:=by
 apply List.ext_getElem (by simp[pkI])
 intro k h1 h2
 simp[pkI]
theorem pkI_no {r:Nat→Bool}{n i:Nat}(h:r i=false):pkI r n i=pkI r n (i+1):=by
 apply List.map_congr_left
 intro k _
 by_cases e:k=i
 ·subst e;rw[h,Bool.and_false,Bool.and_false]
 ·rw[fx_lt e]
theorem pkI_yes {r:Nat→Bool}{n i:Nat}(h:r i=true):(pkI r n i).set i 1=pkI r n (i+1):=by
 apply List.ext_getElem (by simp[pkI])
 intro k h1 h2
 rw[List.getElem_set]
 by_cases e:i=k
 ·subst e;simp[pkI,h]
 ·rw[if_neg e]
  simp only[pkI,List.getElem_map,List.getElem_range]
  rw[fx_lt (Ne.symm e)]
theorem pkI_all (r:Nat→Bool)(n:Nat):pkI r n n=pkL r n:=by
 apply List.map_congr_left
 intro k hk
 rw[decide_eq_true (List.mem_range.1 hk),Bool.true_and]
set_option maxRecDepth 100000 in
set_option maxHeartbeats 2000000 in
theorem packed_any (f:Nat)(p1 p2:Option Addr)(n:Nat)(r:Nat→Bool)(w:World)(hF:f=131∨f=132)(hn:n≤1000)(hT: ∀W,Below w.heap.size w W→HasF W f p1 p2 n r):
  Calls Tryz.prog 130 #[.int .i64 (n:Int),.func (.func f) #[] #[.pointer p1,.pointer p2]] w fun e w'=>e= .returned (.string (pk r n))∧Below w.heap.size w w':=by
 have HT:=Lib.hid hT
 have HN:=Lib.hid hn
 have HMK:Hid (∀W,(Instr.makeSlice 235 (.int .i64 (n:Int)) (.int .i64 (n:Int))).run Tryz.prog W= .ok (.slice (some ⟨W.heap.size,0,none⟩) n n) (W.alloc (.cells (ucl (List.replicate n 0)) 5))):=Lib.hid fun W=>make_by n (by omega) W
 have hmk:=HMK.out
 clear hT hn
 rcases hF with rfl|rfl
 all_goals(
  go_enter Tryz.func130,Tryz.ntmps130
  go_wp2_with fail
  have HNEW:=Lib.hid (show(w.alloc (.cells (ucl (List.replicate n 0)) 5)).heap[w.heap.size]?=some (.cells (ucl (pkI r n 0)) 5 (0,0)) from by rw[← pkI_zero];exact heap_alloc_new w _)
  have HB0:=Lib.hid (show Below w.heap.size w (w.alloc (.cells (ucl (List.replicate n 0)) 5)) from(Below.refl _ _).alloc (Nat.le_refl _) _)
  clear hmk HMK
  generalize w.alloc (.cells (ucl (List.replicate n 0)) 5)=w1 at*
  go_loopw [11] (fun v11 wr=> ∃i:Nat,v11= .int .i64 (i:Int)∧i≤n∧wr.heap[w.heap.size]?=some (.cells (ucl (pkI r n i)) 5 (0,0))∧Below w.heap.size w wr) (fun v11 _=>n - (intOf v11).toNat)
  case atStart=>exact⟨0,rfl,Nat.zero_le _,HNEW.out,HB0.out⟩
  case round=>
   clear HNEW HB0
   obtain⟨i,rfl,hi,hk,hb⟩:=hrel
   by_cases hlt:i < n
   ·have hc:=HT.out _ hb i hlt
    obtain⟨x,hx⟩: ∃x,r i=x:=⟨_,rfl⟩
    rw[hx] at hc
    have HC:=Lib.hid hc
    have HB:=Lib.hid hb
    have HLT:=Lib.hid hlt
    have HX:=Lib.hid hx
    have HK:=Lib.hid hk
    have hin:(i:Int) < (n:Int):=by omega
    have hi9:i≤60000:=by have:=HN.out;omega
    clear hc hb hlt hi hx hk
    go_wp2_with fail
    refine HC.out.mono ?_
    rintro e w2 ⟨rfl,hb1⟩
    have HB1:=Lib.hid (HB.out.trans (hb1.mono HB.out.size))
    have HK1:=Lib.hid ((hb1.block _ (lt_blk HK.out)).trans HK.out)
    clear hb1 HC HK HB
    cases x with
    |false=>
     go_wp2_with fail
     go_roundw
     case rel=>exact⟨i+1,by go_num,HLT.out,by rw[← pkI_no HX.out];exact HK1.out,HB1.out⟩
     case measure=>
      have:=HLT.out
      simp[intOf]
      omega
    |true=>
     have d0:=(cell_blk (i:=i) HK1.out).trans (ucl_at (by rw[pkI_len];exact HLT.out))
     have f0:=frozen_blk (i:=i) HK1.out
     have HST:=Lib.hid (show(w2.setCell ⟨w.heap.size,i,none⟩ (.int .u8 1)).heap[w.heap.size]?=some (.cells (ucl (pkI r n (i+1))) 5 (0,0)) from by
      rw[← pkI_yes HX.out, ← ucl_set]
      exact set_blk HK1.out _)
     have HBS:=Lib.hid (below_set HB1.out (Nat.le_refl w.heap.size) (p:=⟨w.heap.size,i,none⟩) (.int .u8 1))
     go_wp2_with fail
     go_roundw
     case rel=>exact⟨i+1,by go_num,HLT.out,HST.out,HBS.out⟩
     case measure=>
      have:=HLT.out
      simp[intOf]
      omega
   ·obtain rfl:i=n:=by omega
    have HCV:Hid ((convert 235 9 (.slice (some ⟨w.heap.size,0,none⟩) i i)).run Tryz.prog wr= .ok (.string (pk r i)) wr):=Lib.hid (by
     rw[pkI_all] at hk
     exact conv_by hk (by simp[pkL]))
    have hcv:=HCV.out
    have HB:=Lib.hid hb
    clear hlt hi hk hb
    go_wp2_with fail
    go_ret
    exact⟨rfl,HB.out⟩)
def tieV (x:Nat)(s:ByteArray):Value:= .agg #[.int .u64 (x:Int),.string s]
structure TiR (w:World)(g j gi b o i x:Nat)(A:Option Addr)(n c:Nat)(F:Option Addr)(nf cf:Nat):Prop where
 a:w.cell? ⟨g,j,none⟩=some (.slice A n c)
 f:w.cell? ⟨g,5,none⟩=some (.slice F nf cf)
 ii:w.cell? ⟨gi,0,none⟩=some (.int .i64 (i:Int))
 x:w.cell? ⟨b,o+i,none⟩=some (.int .u64 (x:Int))
theorem TiR.keep {w W:World}{g j gi b o i x:Nat}{A:Option Addr}{n c:Nat}{F:Option Addr}{nf cf:Nat}(h:TiR w g j gi b o i x A n c F nf cf)(hb:Below w.heap.size w W):TiR W g j gi b o i x A n c F nf cf:=
 ⟨cell_old h.a hb,cell_old h.f hb,cell_old h.ii hb,cell_old h.x hb⟩
set_option maxRecDepth 100000 in
set_option maxHeartbeats 2000000 in
theorem beyond_any (i:Nat)(S:Bo.Sr)(z:Sen)(v:Value)(A1:Option Addr)(n1 c1:Nat)(A2:Option Addr)(n2 c2:Nat)(A3:Option Addr)(n3 c3:Nat)(A4:Option Addr)(n4 c4:Nat)(F:Option Addr)(nf cf:Nat)(X:Option Addr)(nx cx:Nat)(V:Option Addr)(nv cv:Nat)(O:Option Addr)(no co:Nat)(w:World)(h:TdAt w S z v A1 n1 c1 A2 n2 c2 A3 n3 c3 A4 n4 c4 F nf cf X nx cx V nv cv)(hi:i < lim z):
  Calls Tryz.prog 88 #[tdV v A1 n1 c1 A2 n2 c2 A3 n3 c3 A4 n4 c4 F nf cf X nx cx V nv cv O no co,.int .i64 (i:Int)] w fun e w'=>e= .returned (tieV (hg z i) (pk (rowB z i) z.p.length))∧Below w.heap.size w w':=by
 obtain⟨hw,hip⟩:=lim_whole hi
 obtain⟨hl1,hl2,hl3,hl4,hl5,hl6,hl7⟩:=h.lens hw
 have hnf:=h.sz
 rw[lim_eq hw] at hnf
 have hN:=h.le
 obtain⟨b,o,hA,ex,fx⟩:=val_cell h.sen.rh h.sen.fh (i:=i) (by omega)
 have hval:hg z i=_:=hg_at (by omega)
 rw[← hval] at ex
 rw[hA] at h ⊢
 have HSEN:Hid (∀W,Below w.heap.size w W→SenAt W z A1 n1 c1 A2 n2 c2 (some ⟨b,o,none⟩) n3 c3 A4 n4 c4):=Lib.hid fun W hW=>(h.keep hW).sen
 generalize hg z i=x at*
 obtain⟨wa,hwa⟩: ∃wa,w.alloc (.cells #[v,.slice A1 n1 c1,.slice A2 n2 c2,.slice (some ⟨b,o,none⟩) n3 c3,.slice A4 n4 c4,.slice F nf cf,.slice X nx cx,.slice V nv cv,.slice O no co] 108)=wa:=⟨_,rfl⟩
 obtain⟨wb,hwb⟩: ∃wb,wa.alloc (.cells #[.int .i64 (i:Int)] 3)=wb:=⟨_,rfl⟩
 obtain⟨wc,hwc⟩: ∃wc,wb.alloc (.cells #[.int .u64 0,.string {data:= #[]}] 210)=wc:=⟨_,rfl⟩
 have sa:wa.heap.size=w.heap.size+1:=by rw[← hwa,World.size_alloc]
 have sb:wb.heap.size=w.heap.size+1+1:=by rw[← hwb,World.size_alloc,sa]
 have ba:Below w.heap.size w wa:=hwa▸(Below.refl _ _).alloc (Nat.le_refl _) _
 have bb':Below wa.heap.size wa wb:=hwb▸(Below.refl _ _).alloc (Nat.le_refl _) _
 have bc:Below wb.heap.size wb wc:=hwc▸(Below.refl _ _).alloc (Nat.le_refl _) _
 have kc:wc.heap[w.heap.size+1+1]?=some (.cells #[.int .u64 0,.string {data:= #[]}] 210 (0,0)):=by rw[← sb, ← hwc];exact heap_alloc_new wb _
 have kb:wc.heap[w.heap.size+1]?=some (.cells #[.int .i64 (i:Int)] 3 (0,0)):=(bc.block _ (by omega)).trans (by rw[← sa, ← hwb];exact heap_alloc_new wa _)
 have ka:wc.heap[w.heap.size]?=some (.cells #[v,.slice A1 n1 c1,.slice A2 n2 c2,.slice (some ⟨b,o,none⟩) n3 c3,.slice A4 n4 c4,.slice F nf cf,.slice X nx cx,.slice V nv cv,.slice O no co] 108 (0,0)):=(bc.block _ (by omega)).trans ((bb'.block _ (by omega)).trans (by rw[← hwa];exact heap_alloc_new w _))
 have bwc:Below w.heap.size w wc:=ba.trans ((bb'.trans (bc.mono bb'.size)).mono ba.size)
 have hx:=TBx.of ka
 have hti:TiR wc w.heap.size 3 (w.heap.size+1) b o i x (some ⟨b,o,none⟩) n3 c3 F nf cf:=⟨hx.p3,hx.p5,(cell_blk (i:=0) kb).trans rfl,cell_old ex bwc⟩
 have HX:=Lib.hid hx
 have HTI:=Lib.hid hti
 have HBC:=Lib.hid bwc
 have HKC:=Lib.hid kc
 have HKB:=Lib.hid kb
 have HW:=Lib.hid hw
 have HI:Hid (i < n1):=Lib.hid (by omega)
 have HNF:Hid (nf=n1):=Lib.hid (by omega)
 have HN:Hid (n1≤400):=Lib.hid hN
 have HP:Hid (z.p.length=n1):=Lib.hid hl1
 have hxi:(i:Int) < (n3:Int):=by omega
 have HPK:Hid (∀W,Below wc.heap.size wc W→Calls Tryz.prog 130 #[.int .i64 (nf:Int),.func (.func 131) #[] #[.pointer (some ⟨w.heap.size,0,none⟩),.pointer (some ⟨w.heap.size+1,0,none⟩)]] W fun e w'=>e= .returned (.string (pk (rowB z i) nf))∧Below W.heap.size W w'):=Lib.hid fun W hW=>
  packed_any 131 _ _ nf (rowB z i) W (by simp) (by have:=HN.out;have:=HNF.out;omega) fun U hU k hk=>by
   have hk:k < n1:=by have:=HNF.out;omega
   have hWU:=hW.trans (hU.mono hW.size)
   exact pclo2_any w.heap.size (w.heap.size+1) i k z v A1 n1 c1 A2 n2 c2 (some ⟨b,o,none⟩) n3 c3 A4 n4 c4 F nf cf X nx cx V nv cv O no co U (HSEN.out U (HBC.out.trans (hWU.mono HBC.out.size))) (HX.out.keep hWU) (cell_old ((cell_blk (i:=0) HKB.out).trans rfl) hWU) HW.out HI.out hk
 clear h hi hw hip hl1 hl2 hl3 hl4 hl5 hl6 hl7 hnf hN ex fx hval sa sb ba bb' bc kc kb ka bwc hx
 unfold tdV tieV
 rw[HP.out.trans HNF.out.symm]
 generalize pk (rowB z i) nf=s at*
 subst hwa hwb
 go_enter Tryz.func88,Tryz.ntmps88
 go_wp2_with fail
 generalize hwd:World.alloc (World.alloc (World.alloc _ _) _) _=wd'
 obtain rfl:wc=wd':=hwc.symm.trans hwd
 clear hwc hwd
 refine wp_region_ord [0,1,2,3,4,5,6,7,8,9,10,11,12] [10,12] 12 (fun W=>TiR W w.heap.size 3 (w.heap.size+1) b o i x (some ⟨b,o,none⟩) n3 c3 F nf cf) (by kernel_rfl) (by kernel_rfl) (by kernel_rfl) (by kernel_rfl) (fun _ _ _ _ _ h=>h) ⟨hti.a,hti.f,hti.ii,hti.x⟩ ?_
 simp only[steps,List.getElem?_cons_zero,List.getElem?_cons_succ]
 clear hti
 repeat(first
   |(refine ord_no rfl ?_;simp only[Act.put,List.setIfInBounds_toArray,List.set_cons_zero,List.set_cons_succ])
   |(refine ord_yes (v:= ?_) rfl rfl ?_ ?_;rotate_left;(focus(rintro w' ⟨x0,x1,x2,x3⟩;go_simp;try with_reducible rfl));simp only[Act.put,List.setIfInBounds_toArray,List.set_cons_zero,List.set_cons_succ]))
 have HTD:=Lib.hid (HTI.out.keep (Below.refl wc.heap.size wc).drew)
 have HKD:=Lib.hid (show wc.drew.heap[w.heap.size+1+1]?=some (.cells #[.int .u64 0,.string {data:= #[]}] 210 (0,0)) from HKC.out)
 have HBD:=Lib.hid ((Below.refl wc.heap.size wc).drew)
 clear HTI HKC
 generalize World.drew _=wd at*
 refine ord_hard rfl rfl (fun K hK=> ?_)
 go_simp
 refine(HPK.out wd HBD.out).mono ?_
 rintro e w4 ⟨rfl,hv⟩
 have hs4:=HTD.out.keep hv
 have HK4:=Lib.hid ((hv.block _ (lt_blk HKD.out)).trans HKD.out)
 have HB4:=Lib.hid (HBC.out.trans ((HBD.out.trans (hv.mono HBD.out.size)).mono HBC.out.size))
 refine hK.out _ _ (fun _=>hs4) ?_
 clear hK K hs4 hv HTD HKD HBD HPK
 try simp only[Act.put,List.setIfInBounds_toArray,List.set_cons_zero,List.set_cons_succ]
 repeat(first
   |(refine ord_no rfl ?_;simp only[Act.put,List.setIfInBounds_toArray,List.set_cons_zero,List.set_cons_succ])
   |(refine ord_yes (v:= ?_) rfl rfl ?_ ?_;rotate_left;(focus(rintro w' ⟨x0,x1,x2,x3⟩;go_simp;try with_reducible rfl));simp only[Act.put,List.setIfInBounds_toArray,List.set_cons_zero,List.set_cons_succ]))
 have e0:w4.cell? ⟨w.heap.size+1+1,0,none⟩=some (.int .u64 0):=(cell_blk (i:=0) HK4.out).trans rfl
 have e1:w4.cell? ⟨w.heap.size+1+1,1,none⟩=some (.string {data:= #[]}):=(cell_blk (i:=1) HK4.out).trans rfl
 have f0:w4.frozen? ⟨w.heap.size+1+1,0,none⟩=false:=frozen_blk HK4.out
 have f1:w4.frozen? ⟨w.heap.size+1+1,1,none⟩=false:=frozen_blk HK4.out
 refine ord_hard rfl rfl (fun K hK=> ?_)
 go_simp
 have HS1:=Lib.hid (set_blk HK4.out (.int .u64 (x:Int)) (i:=0))
 have HS2:=Lib.hid (set_blk HS1.out (.string s) (i:=1))
 have HB5:=Lib.hid (below_set (below_set HB4.out (show w.heap.size≤w.heap.size+1+1 by omega) (p:=⟨w.heap.size+1+1,0,none⟩) (.int .u64 (x:Int))) (show w.heap.size≤w.heap.size+1+1 by omega) (p:=⟨w.heap.size+1+1,1,none⟩) (.string s))
 refine hK.out _ _ (fun h=>absurd rfl h) ?_
 clear hK K e0 e1 f0 f1
 try simp only[Act.put,List.setIfInBounds_toArray,List.set_cons_zero,List.set_cons_succ]
 refine ord_end ?_
 go_wp2_with fail
 refine bodyPost_ret (v:= .agg #[.int .u64 (x:Int),.string s]) ?_ rfl ⟨rfl,HB5.out⟩
 exact results_cell_row (P:=Tryz.prog) rfl _ _ (w.heap.size+1+1) 210 _ (0,0) _ rfl HS2.out Tryz.underlying210 rfl rfl
set_option maxRecDepth 100000 in
set_option maxHeartbeats 2000000 in
theorem beneath_any (i:Nat)(S:Bo.Sr)(z:Sen)(v:Value)(A1:Option Addr)(n1 c1:Nat)(A2:Option Addr)(n2 c2:Nat)(A3:Option Addr)(n3 c3:Nat)(A4:Option Addr)(n4 c4:Nat)(F:Option Addr)(nf cf:Nat)(X:Option Addr)(nx cx:Nat)(V:Option Addr)(nv cv:Nat)(O:Option Addr)(no co:Nat)(w:World)(h:TdAt w S z v A1 n1 c1 A2 n2 c2 A3 n3 c3 A4 n4 c4 F nf cf X nx cx V nv cv)(hi:i < lim z):
  Calls Tryz.prog 89 #[tdV v A1 n1 c1 A2 n2 c2 A3 n3 c3 A4 n4 c4 F nf cf X nx cx V nv cv O no co,.int .i64 (i:Int)] w fun e w'=>e= .returned (tieV (lw z i) (pk (colB z i) z.p.length))∧Below w.heap.size w w':=by
 obtain⟨hw,hip⟩:=lim_whole hi
 obtain⟨hl1,hl2,hl3,hl4,hl5,hl6,hl7⟩:=h.lens hw
 have hnf:=h.sz
 rw[lim_eq hw] at hnf
 have hN:=h.le
 obtain⟨b,o,hA,ex,fx⟩:=val_cell h.sen.rl h.sen.fl (i:=i) (by omega)
 have hval:lw z i=_:=lw_at (by omega)
 rw[← hval] at ex
 rw[hA] at h ⊢
 have HSEN:Hid (∀W,Below w.heap.size w W→SenAt W z A1 n1 c1 (some ⟨b,o,none⟩) n2 c2 A3 n3 c3 A4 n4 c4):=Lib.hid fun W hW=>(h.keep hW).sen
 generalize lw z i=x at*
 obtain⟨wa,hwa⟩: ∃wa,w.alloc (.cells #[v,.slice A1 n1 c1,.slice (some ⟨b,o,none⟩) n2 c2,.slice A3 n3 c3,.slice A4 n4 c4,.slice F nf cf,.slice X nx cx,.slice V nv cv,.slice O no co] 108)=wa:=⟨_,rfl⟩
 obtain⟨wb,hwb⟩: ∃wb,wa.alloc (.cells #[.int .i64 (i:Int)] 3)=wb:=⟨_,rfl⟩
 obtain⟨wc,hwc⟩: ∃wc,wb.alloc (.cells #[.int .u64 0,.string {data:= #[]}] 210)=wc:=⟨_,rfl⟩
 have sa:wa.heap.size=w.heap.size+1:=by rw[← hwa,World.size_alloc]
 have sb:wb.heap.size=w.heap.size+1+1:=by rw[← hwb,World.size_alloc,sa]
 have ba:Below w.heap.size w wa:=hwa▸(Below.refl _ _).alloc (Nat.le_refl _) _
 have bb':Below wa.heap.size wa wb:=hwb▸(Below.refl _ _).alloc (Nat.le_refl _) _
 have bc:Below wb.heap.size wb wc:=hwc▸(Below.refl _ _).alloc (Nat.le_refl _) _
 have kc:wc.heap[w.heap.size+1+1]?=some (.cells #[.int .u64 0,.string {data:= #[]}] 210 (0,0)):=by rw[← sb, ← hwc];exact heap_alloc_new wb _
 have kb:wc.heap[w.heap.size+1]?=some (.cells #[.int .i64 (i:Int)] 3 (0,0)):=(bc.block _ (by omega)).trans (by rw[← sa, ← hwb];exact heap_alloc_new wa _)
 have ka:wc.heap[w.heap.size]?=some (.cells #[v,.slice A1 n1 c1,.slice (some ⟨b,o,none⟩) n2 c2,.slice A3 n3 c3,.slice A4 n4 c4,.slice F nf cf,.slice X nx cx,.slice V nv cv,.slice O no co] 108 (0,0)):=(bc.block _ (by omega)).trans ((bb'.block _ (by omega)).trans (by rw[← hwa];exact heap_alloc_new w _))
 have bwc:Below w.heap.size w wc:=ba.trans ((bb'.trans (bc.mono bb'.size)).mono ba.size)
 have hx:=TBx.of ka
 have hti:TiR wc w.heap.size 2 (w.heap.size+1) b o i x (some ⟨b,o,none⟩) n2 c2 F nf cf:=⟨hx.p2,hx.p5,(cell_blk (i:=0) kb).trans rfl,cell_old ex bwc⟩
 have HX:=Lib.hid hx
 have HTI:=Lib.hid hti
 have HBC:=Lib.hid bwc
 have HKC:=Lib.hid kc
 have HKB:=Lib.hid kb
 have HW:=Lib.hid hw
 have HI:Hid (i < n1):=Lib.hid (by omega)
 have HNF:Hid (nf=n1):=Lib.hid (by omega)
 have HN:Hid (n1≤400):=Lib.hid hN
 have HP:Hid (z.p.length=n1):=Lib.hid hl1
 have hxi:(i:Int) < (n2:Int):=by omega
 have HPK:Hid (∀W,Below wc.heap.size wc W→Calls Tryz.prog 130 #[.int .i64 (nf:Int),.func (.func 132) #[] #[.pointer (some ⟨w.heap.size,0,none⟩),.pointer (some ⟨w.heap.size+1,0,none⟩)]] W fun e w'=>e= .returned (.string (pk (colB z i) nf))∧Below W.heap.size W w'):=Lib.hid fun W hW=>
  packed_any 132 _ _ nf (colB z i) W (by simp) (by have:=HN.out;have:=HNF.out;omega) fun U hU k hk=>by
   have hk:k < n1:=by have:=HNF.out;omega
   have hWU:=hW.trans (hU.mono hW.size)
   exact pclo1_any w.heap.size (w.heap.size+1) i k z v A1 n1 c1 (some ⟨b,o,none⟩) n2 c2 A3 n3 c3 A4 n4 c4 F nf cf X nx cx V nv cv O no co U (HSEN.out U (HBC.out.trans (hWU.mono HBC.out.size))) (HX.out.keep hWU) (cell_old ((cell_blk (i:=0) HKB.out).trans rfl) hWU) HW.out HI.out hk
 clear h hi hw hip hl1 hl2 hl3 hl4 hl5 hl6 hl7 hnf hN ex fx hval sa sb ba bb' bc kc kb ka bwc hx
 unfold tdV tieV
 rw[HP.out.trans HNF.out.symm]
 generalize pk (colB z i) nf=s at*
 subst hwa hwb
 go_enter Tryz.func89,Tryz.ntmps89
 go_wp2_with fail
 generalize hwd:World.alloc (World.alloc (World.alloc _ _) _) _=wd'
 obtain rfl:wc=wd':=hwc.symm.trans hwd
 clear hwc hwd
 refine wp_region_ord [0,1,2,3,4,5,6,7,8,9,10,11,12] [10,12] 12 (fun W=>TiR W w.heap.size 2 (w.heap.size+1) b o i x (some ⟨b,o,none⟩) n2 c2 F nf cf) (by kernel_rfl) (by kernel_rfl) (by kernel_rfl) (by kernel_rfl) (fun _ _ _ _ _ h=>h) ⟨hti.a,hti.f,hti.ii,hti.x⟩ ?_
 simp only[steps,List.getElem?_cons_zero,List.getElem?_cons_succ]
 clear hti
 repeat(first
   |(refine ord_no rfl ?_;simp only[Act.put,List.setIfInBounds_toArray,List.set_cons_zero,List.set_cons_succ])
   |(refine ord_yes (v:= ?_) rfl rfl ?_ ?_;rotate_left;(focus(rintro w' ⟨x0,x1,x2,x3⟩;go_simp;try with_reducible rfl));simp only[Act.put,List.setIfInBounds_toArray,List.set_cons_zero,List.set_cons_succ]))
 have HTD:=Lib.hid (HTI.out.keep (Below.refl wc.heap.size wc).drew)
 have HKD:=Lib.hid (show wc.drew.heap[w.heap.size+1+1]?=some (.cells #[.int .u64 0,.string {data:= #[]}] 210 (0,0)) from HKC.out)
 have HBD:=Lib.hid ((Below.refl wc.heap.size wc).drew)
 clear HTI HKC
 generalize World.drew _=wd at*
 refine ord_hard rfl rfl (fun K hK=> ?_)
 go_simp
 refine(HPK.out wd HBD.out).mono ?_
 rintro e w4 ⟨rfl,hv⟩
 have hs4:=HTD.out.keep hv
 have HK4:=Lib.hid ((hv.block _ (lt_blk HKD.out)).trans HKD.out)
 have HB4:=Lib.hid (HBC.out.trans ((HBD.out.trans (hv.mono HBD.out.size)).mono HBC.out.size))
 refine hK.out _ _ (fun _=>hs4) ?_
 clear hK K hs4 hv HTD HKD HBD HPK
 try simp only[Act.put,List.setIfInBounds_toArray,List.set_cons_zero,List.set_cons_succ]
 repeat(first
   |(refine ord_no rfl ?_;simp only[Act.put,List.setIfInBounds_toArray,List.set_cons_zero,List.set_cons_succ])
   |(refine ord_yes (v:= ?_) rfl rfl ?_ ?_;rotate_left;(focus(rintro w' ⟨x0,x1,x2,x3⟩;go_simp;try with_reducible rfl));simp only[Act.put,List.setIfInBounds_toArray,List.set_cons_zero,List.set_cons_succ]))
 have e0:w4.cell? ⟨w.heap.size+1+1,0,none⟩=some (.int .u64 0):=(cell_blk (i:=0) HK4.out).trans rfl
 have e1:w4.cell? ⟨w.heap.size+1+1,1,none⟩=some (.string {data:= #[]}):=(cell_blk (i:=1) HK4.out).trans rfl
 have f0:w4.frozen? ⟨w.heap.size+1+1,0,none⟩=false:=frozen_blk HK4.out
 have f1:w4.frozen? ⟨w.heap.size+1+1,1,none⟩=false:=frozen_blk HK4.out
 refine ord_hard rfl rfl (fun K hK=> ?_)
 go_simp
 have HS1:=Lib.hid (set_blk HK4.out (.int .u64 (x:Int)) (i:=0))
 have HS2:=Lib.hid (set_blk HS1.out (.string s) (i:=1))
 have HB5:=Lib.hid (below_set (below_set HB4.out (show w.heap.size≤w.heap.size+1+1 by omega) (p:=⟨w.heap.size+1+1,0,none⟩) (.int .u64 (x:Int))) (show w.heap.size≤w.heap.size+1+1 by omega) (p:=⟨w.heap.size+1+1,1,none⟩) (.string s))
 refine hK.out _ _ (fun h=>absurd rfl h) ?_
 clear hK K e0 e1 f0 f1
 try simp only[Act.put,List.setIfInBounds_toArray,List.set_cons_zero,List.set_cons_succ]
 refine ord_end ?_
 go_wp2_with fail
 refine bodyPost_ret (v:= .agg #[.int .u64 (x:Int),.string s]) ?_ rfl ⟨rfl,HB5.out⟩
 exact results_cell_row (P:=Tryz.prog) rfl _ _ (w.heap.size+1+1) 210 _ (0,0) _ rfl HS2.out Tryz.underlying210 rfl rfl
end Go.Proofs.YtmejhedegmjboaaGreat.I
